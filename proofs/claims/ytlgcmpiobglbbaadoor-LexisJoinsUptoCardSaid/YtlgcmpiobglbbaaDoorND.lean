/- lexis's reference: bare (written by gennd.py). -/
import Derived.Test.YtlgcmpiobglbbaaDoorNC
import Derived.Test.YtlgcmpiobglbbaaDoorLI
set_option linter.unusedVariables false
set_option linter.unusedSimpArgs false
namespace Go.Proofs.YtlgcmpiobglbbaaDoor
open Go.RowKit Mth

theorem says_t {w w' : World} {Q : Prop} {e : Ending} (h : Says w w' Q e) (q : Q) : e = .returned (.bool true) ∧ w = w' := by
  obtain ⟨b, h1, h2, h3⟩ := h
  exact ⟨by rw [h1, h2.2 q], h3⟩
theorem says_f {w w' : World} {Q : Prop} {e : Ending} (h : Says w w' Q e) (q : ¬ Q) : e = .returned (.bool false) ∧ w = w' := by
  obtain ⟨b, h1, h2, h3⟩ := h
  refine ⟨?_, h3⟩
  cases b with
  | true => exact absurd (h2.1 rfl) q
  | false => exact h1
set_option maxRecDepth 100000 in
/-- a token comes back: out of a block -/
theorem results_tok1 {fn : Func} {t : Tmp} {tmps : Array Value} {b : Nat} {v0 v1 v2 v3 v4 : Value} {T : TypeId} {W : World} (h : fn.results = #[.cell t 33])
    (h1 : tmps.getD t undef = .pointer (some ⟨b, 0, none⟩)) (h3 : W.heap[b]? = some (.cells #[v0, v1, v2, v3, v4] T (0, 0))) :
    (results fn tmps).run Tryd.prog W = .ok (.agg #[v0, v1, v2, v3, v4]) W := by
  obtain ⟨c0, c1, c2, c3, c4⟩ := blk5 h3
  rw [Array.getD_eq_getD_getElem?] at h1
  simp [results, h, h1, go_sem, c0, c1, c2, c3, c4]
theorem noTok_eq : noTok = tokV 0 ⟨#[]⟩ false 0 0 := rfl
set_option maxHeartbeats 2000000 in
set_option maxRecDepth 100000 in
theorem bare_num (s : ByteArray) (hs : s.size ≤ 1048576) (w : World) (n1 : isNum s 0 s.size) : Calls Tryd.prog 49 #[.string s] w fun e w' => e = .returned (tokV 3 s false 0 0) ∧ Below w.heap.size w w' := by
  have M1 : Hid (∀ W, Calls Tryd.prog 61 #[.string s] W fun e w' => e = .returned (.bool true) ∧ W = w') := Lib.hid (fun W => (numeral_any s hs W).mono fun e w' h => says_t h n1)
  have BE := Lib.hid (Below.refl w.heap.size w)
  clear n1
  go_enter Tryd.func49, Tryd.ntmps49
  go_wp2_with (first | (go_at_call 61; refine (M1.out _).mono ?_; rintro e w1 ⟨rfl, rfl⟩) | (go_at_call 62; refine (M2.out _).mono ?_; rintro e w1 ⟨rfl, rfl⟩) | (go_at_call 63; refine (M3.out _).mono ?_; rintro e w1 ⟨rfl, rfl⟩) | (go_at_call 63; refine (M4.out _).mono ?_; rintro e w1 ⟨rfl, rfl⟩) | (go_at_call 65; refine (M5.out _).mono ?_; rintro e w1 ⟨rfl, rfl⟩) | (go_at_call 65; refine (M6.out _).mono ?_; rintro e w1 ⟨rfl, rfl⟩) | (go_at_call 66; refine (M7.out _).mono ?_; rintro e w1 ⟨rfl, rfl⟩; try clear M5))
  all_goals (
    refine bodyPost_ret (results_tok1 rfl rfl (heap_alloc_new _ _)) rfl ?_
    exact ⟨rfl, BE.out.alloc (Nat.le_refl _) _⟩)
set_option maxHeartbeats 2000000 in
set_option maxRecDepth 100000 in
theorem bare_dec (s : ByteArray) (hs : s.size ≤ 1048576) (w : World) (n1 : ¬ isNum s 0 s.size) (n2 : isDec s 0 s.size) : Calls Tryd.prog 49 #[.string s] w fun e w' => e = .returned (tokV 4 s false 0 0) ∧ Below w.heap.size w w' := by
  have M1 : Hid (∀ W, Calls Tryd.prog 61 #[.string s] W fun e w' => e = .returned (.bool false) ∧ W = w') := Lib.hid (fun W => (numeral_any s hs W).mono fun e w' h => says_f h n1)
  have M2 : Hid (∀ W, Calls Tryd.prog 62 #[.string s] W fun e w' => e = .returned (.bool true) ∧ W = w') := Lib.hid (fun W => (decimal_any s hs W).mono fun e w' h => says_t h n2)
  have BE := Lib.hid (Below.refl w.heap.size w)
  clear n1 n2
  go_enter Tryd.func49, Tryd.ntmps49
  go_wp2_with (first | (go_at_call 61; refine (M1.out _).mono ?_; rintro e w1 ⟨rfl, rfl⟩) | (go_at_call 62; refine (M2.out _).mono ?_; rintro e w1 ⟨rfl, rfl⟩) | (go_at_call 63; refine (M3.out _).mono ?_; rintro e w1 ⟨rfl, rfl⟩) | (go_at_call 63; refine (M4.out _).mono ?_; rintro e w1 ⟨rfl, rfl⟩) | (go_at_call 65; refine (M5.out _).mono ?_; rintro e w1 ⟨rfl, rfl⟩) | (go_at_call 65; refine (M6.out _).mono ?_; rintro e w1 ⟨rfl, rfl⟩) | (go_at_call 66; refine (M7.out _).mono ?_; rintro e w1 ⟨rfl, rfl⟩; try clear M5))
  all_goals (
    refine bodyPost_ret (results_tok1 rfl rfl (heap_alloc_new _ _)) rfl ?_
    exact ⟨rfl, BE.out.alloc (Nat.le_refl _) _⟩)
set_option maxHeartbeats 2000000 in
set_option maxRecDepth 100000 in
theorem bare_bin (s : ByteArray) (hs : s.size ≤ 1048576) (w : World) (h0 : 0 < s.size) (hc : cb s 0 = 35) (h2 : 2 < s.size) (e0 : s.extract 0 2 = ⟨#[35, 98]⟩) (n4 : (0 < (s.extract 2 s.size).size ∧ allP (s.extract 2 s.size) bBin 0 (s.extract 2 s.size).size)) : Calls Tryd.prog 49 #[.string s] w fun e w' => e = .returned (tokV 6 (s.extract 2 s.size) false 0 0) ∧ Below w.heap.size w w' := by
  have hd : bDig (cb s 0) = false := by rw [hc]; rfl
  have n1 : ¬ isNum s 0 s.size := (no_num (s := s) (p := 0) (e := s.size) hd).1
  have n2 : ¬ isDec s 0 s.size := (no_num (s := s) (p := 0) (e := s.size) hd).2
  have M1 : Hid (∀ W, Calls Tryd.prog 61 #[.string s] W fun e w' => e = .returned (.bool false) ∧ W = w') := Lib.hid (fun W => (numeral_any s hs W).mono fun e w' h => says_f h n1)
  have M2 : Hid (∀ W, Calls Tryd.prog 62 #[.string s] W fun e w' => e = .returned (.bool false) ∧ W = w') := Lib.hid (fun W => (decimal_any s hs W).mono fun e w' h => says_f h n2)
  clear n1 n2
  have M4 : Hid (∀ W, Calls Tryd.prog 63 #[.string (s.extract 2 s.size), .int .i64 2] W fun e w' => e = .returned (.bool true) ∧ W = w') := Lib.hid (fun W => (all2_any (s.extract 2 s.size) (by rw [size_ext (Nat.le_refl _)]; omega) W).mono fun e w' h => says_t h n4)
  have BE := Lib.hid (Below.refl w.heap.size w)
  clear n4 hd hc
  go_enter Tryd.func49, Tryd.ntmps49
  go_wp2_with (first | (go_at_call 61; refine (M1.out _).mono ?_; rintro e w1 ⟨rfl, rfl⟩) | (go_at_call 62; refine (M2.out _).mono ?_; rintro e w1 ⟨rfl, rfl⟩) | (go_at_call 63; refine (M3.out _).mono ?_; rintro e w1 ⟨rfl, rfl⟩) | (go_at_call 63; refine (M4.out _).mono ?_; rintro e w1 ⟨rfl, rfl⟩) | (go_at_call 65; refine (M5.out _).mono ?_; rintro e w1 ⟨rfl, rfl⟩) | (go_at_call 65; refine (M6.out _).mono ?_; rintro e w1 ⟨rfl, rfl⟩) | (go_at_call 66; refine (M7.out _).mono ?_; rintro e w1 ⟨rfl, rfl⟩; try clear M5))
  all_goals (
    refine bodyPost_ret (results_tok1 rfl rfl (heap_alloc_new _ _)) rfl ?_
    exact ⟨rfl, BE.out.alloc (Nat.le_refl _) _⟩)
set_option maxHeartbeats 2000000 in
set_option maxRecDepth 100000 in
theorem bare_binbad (s : ByteArray) (hs : s.size ≤ 1048576) (w : World) (h0 : 0 < s.size) (hc : cb s 0 = 35) (h2 : 2 < s.size) (e0 : s.extract 0 2 = ⟨#[35, 98]⟩) (n4 : ¬ (0 < (s.extract 2 s.size).size ∧ allP (s.extract 2 s.size) bBin 0 (s.extract 2 s.size).size)) : Calls Tryd.prog 49 #[.string s] w fun e w' => e = .returned (noTok) ∧ Below w.heap.size w w' := by
  have hd : bDig (cb s 0) = false := by rw [hc]; rfl
  have n1 : ¬ isNum s 0 s.size := (no_num (s := s) (p := 0) (e := s.size) hd).1
  have n2 : ¬ isDec s 0 s.size := (no_num (s := s) (p := 0) (e := s.size) hd).2
  have M1 : Hid (∀ W, Calls Tryd.prog 61 #[.string s] W fun e w' => e = .returned (.bool false) ∧ W = w') := Lib.hid (fun W => (numeral_any s hs W).mono fun e w' h => says_f h n1)
  have M2 : Hid (∀ W, Calls Tryd.prog 62 #[.string s] W fun e w' => e = .returned (.bool false) ∧ W = w') := Lib.hid (fun W => (decimal_any s hs W).mono fun e w' h => says_f h n2)
  clear n1 n2
  have M4 : Hid (∀ W, Calls Tryd.prog 63 #[.string (s.extract 2 s.size), .int .i64 2] W fun e w' => e = .returned (.bool false) ∧ W = w') := Lib.hid (fun W => (all2_any (s.extract 2 s.size) (by rw [size_ext (Nat.le_refl _)]; omega) W).mono fun e w' h => says_f h n4)
  have hb0 := cb_at h0
  have M7 : Hid (∀ W, Calls Tryd.prog 66 #[.int .u8 ((cb s 0 : Nat) : Int)] W fun e w' => e = .returned (.bool false) ∧ W = w') := Lib.hid (fun W => (digit6_any _ (cb_lt s 0) W).mono fun e w' h => ⟨by rw [h.1, hd], h.2⟩)
  have M6 : Hid (∀ W, Calls Tryd.prog 65 #[.string s] W fun e w' => e = .returned (.bool false) ∧ W = w') := Lib.hid (fun W => (bytes_any s hs W).mono fun e w' h => says_f h (fun h => by have := h.2 0 (Nat.le_refl _) h0; rw [hc] at this; cases this))
  rw [hc] at M7 hb0
  have BE := Lib.hid (Below.refl w.heap.size w)
  clear n4 hd hc
  go_enter Tryd.func49, Tryd.ntmps49
  go_wp2_with (first | (go_at_call 61; refine (M1.out _).mono ?_; rintro e w1 ⟨rfl, rfl⟩) | (go_at_call 62; refine (M2.out _).mono ?_; rintro e w1 ⟨rfl, rfl⟩) | (go_at_call 63; refine (M3.out _).mono ?_; rintro e w1 ⟨rfl, rfl⟩) | (go_at_call 63; refine (M4.out _).mono ?_; rintro e w1 ⟨rfl, rfl⟩) | (go_at_call 65; refine (M5.out _).mono ?_; rintro e w1 ⟨rfl, rfl⟩) | (go_at_call 65; refine (M6.out _).mono ?_; rintro e w1 ⟨rfl, rfl⟩) | (go_at_call 66; refine (M7.out _).mono ?_; rintro e w1 ⟨rfl, rfl⟩; try clear M5))
  all_goals (
    refine bodyPost_ret (results_tok1 rfl rfl (heap_alloc_new _ _)) rfl ?_
    exact ⟨rfl, BE.out.alloc (Nat.le_refl _) _⟩)
set_option maxHeartbeats 2000000 in
set_option maxRecDepth 100000 in
theorem bare_hexbad (s : ByteArray) (hs : s.size ≤ 1048576) (w : World) (h0 : 0 < s.size) (hc : cb s 0 = 35) (h2 : 2 < s.size) (e0 : s.extract 0 2 = ⟨#[35, 120]⟩) (n3 : ¬ (0 < (s.extract 2 s.size).size ∧ allP (s.extract 2 s.size) bHex 0 (s.extract 2 s.size).size)) : Calls Tryd.prog 49 #[.string s] w fun e w' => e = .returned (noTok) ∧ Below w.heap.size w w' := by
  have hd : bDig (cb s 0) = false := by rw [hc]; rfl
  have n1 : ¬ isNum s 0 s.size := (no_num (s := s) (p := 0) (e := s.size) hd).1
  have n2 : ¬ isDec s 0 s.size := (no_num (s := s) (p := 0) (e := s.size) hd).2
  have M1 : Hid (∀ W, Calls Tryd.prog 61 #[.string s] W fun e w' => e = .returned (.bool false) ∧ W = w') := Lib.hid (fun W => (numeral_any s hs W).mono fun e w' h => says_f h n1)
  have M2 : Hid (∀ W, Calls Tryd.prog 62 #[.string s] W fun e w' => e = .returned (.bool false) ∧ W = w') := Lib.hid (fun W => (decimal_any s hs W).mono fun e w' h => says_f h n2)
  clear n1 n2
  have M3 : Hid (∀ W, Calls Tryd.prog 63 #[.string (s.extract 2 s.size), .int .i64 16] W fun e w' => e = .returned (.bool false) ∧ W = w') := Lib.hid (fun W => (all16_any (s.extract 2 s.size) (by rw [size_ext (Nat.le_refl _)]; omega) W).mono fun e w' h => says_f h n3)
  have hb0 := cb_at h0
  have M7 : Hid (∀ W, Calls Tryd.prog 66 #[.int .u8 ((cb s 0 : Nat) : Int)] W fun e w' => e = .returned (.bool false) ∧ W = w') := Lib.hid (fun W => (digit6_any _ (cb_lt s 0) W).mono fun e w' h => ⟨by rw [h.1, hd], h.2⟩)
  have M6 : Hid (∀ W, Calls Tryd.prog 65 #[.string s] W fun e w' => e = .returned (.bool false) ∧ W = w') := Lib.hid (fun W => (bytes_any s hs W).mono fun e w' h => says_f h (fun h => by have := h.2 0 (Nat.le_refl _) h0; rw [hc] at this; cases this))
  rw [hc] at M7 hb0
  have BE := Lib.hid (Below.refl w.heap.size w)
  clear n3 hd hc
  go_enter Tryd.func49, Tryd.ntmps49
  go_wp2_with (first | (go_at_call 61; refine (M1.out _).mono ?_; rintro e w1 ⟨rfl, rfl⟩) | (go_at_call 62; refine (M2.out _).mono ?_; rintro e w1 ⟨rfl, rfl⟩) | (go_at_call 63; refine (M3.out _).mono ?_; rintro e w1 ⟨rfl, rfl⟩) | (go_at_call 63; refine (M4.out _).mono ?_; rintro e w1 ⟨rfl, rfl⟩) | (go_at_call 65; refine (M5.out _).mono ?_; rintro e w1 ⟨rfl, rfl⟩) | (go_at_call 65; refine (M6.out _).mono ?_; rintro e w1 ⟨rfl, rfl⟩) | (go_at_call 66; refine (M7.out _).mono ?_; rintro e w1 ⟨rfl, rfl⟩; try clear M5))
  all_goals (
    refine bodyPost_ret (results_tok1 rfl rfl (heap_alloc_new _ _)) rfl ?_
    exact ⟨rfl, BE.out.alloc (Nat.le_refl _) _⟩)
set_option maxHeartbeats 2000000 in
set_option maxRecDepth 100000 in
theorem bare_hashx (s : ByteArray) (hs : s.size ≤ 1048576) (w : World) (h0 : 0 < s.size) (hc : cb s 0 = 35) (h2 : 2 < s.size) (e1 : s.extract 0 2 ≠ ⟨#[35, 120]⟩) (e2 : s.extract 0 2 ≠ ⟨#[35, 98]⟩) : Calls Tryd.prog 49 #[.string s] w fun e w' => e = .returned (noTok) ∧ Below w.heap.size w w' := by
  have hd : bDig (cb s 0) = false := by rw [hc]; rfl
  have n1 : ¬ isNum s 0 s.size := (no_num (s := s) (p := 0) (e := s.size) hd).1
  have n2 : ¬ isDec s 0 s.size := (no_num (s := s) (p := 0) (e := s.size) hd).2
  have M1 : Hid (∀ W, Calls Tryd.prog 61 #[.string s] W fun e w' => e = .returned (.bool false) ∧ W = w') := Lib.hid (fun W => (numeral_any s hs W).mono fun e w' h => says_f h n1)
  have M2 : Hid (∀ W, Calls Tryd.prog 62 #[.string s] W fun e w' => e = .returned (.bool false) ∧ W = w') := Lib.hid (fun W => (decimal_any s hs W).mono fun e w' h => says_f h n2)
  clear n1 n2
  have en1 : ¬ (s.extract 0 2).toList = [35, 120] := lst_ne e1
  have en2 : ¬ (s.extract 0 2).toList = [35, 98] := lst_ne e2
  have hb0 := cb_at h0
  have M7 : Hid (∀ W, Calls Tryd.prog 66 #[.int .u8 ((cb s 0 : Nat) : Int)] W fun e w' => e = .returned (.bool false) ∧ W = w') := Lib.hid (fun W => (digit6_any _ (cb_lt s 0) W).mono fun e w' h => ⟨by rw [h.1, hd], h.2⟩)
  have M6 : Hid (∀ W, Calls Tryd.prog 65 #[.string s] W fun e w' => e = .returned (.bool false) ∧ W = w') := Lib.hid (fun W => (bytes_any s hs W).mono fun e w' h => says_f h (fun h => by have := h.2 0 (Nat.le_refl _) h0; rw [hc] at this; cases this))
  rw [hc] at M7 hb0
  have BE := Lib.hid (Below.refl w.heap.size w)
  clear e1 e2 hd hc
  go_enter Tryd.func49, Tryd.ntmps49
  go_wp2_with (first | (go_at_call 61; refine (M1.out _).mono ?_; rintro e w1 ⟨rfl, rfl⟩) | (go_at_call 62; refine (M2.out _).mono ?_; rintro e w1 ⟨rfl, rfl⟩) | (go_at_call 63; refine (M3.out _).mono ?_; rintro e w1 ⟨rfl, rfl⟩) | (go_at_call 63; refine (M4.out _).mono ?_; rintro e w1 ⟨rfl, rfl⟩) | (go_at_call 65; refine (M5.out _).mono ?_; rintro e w1 ⟨rfl, rfl⟩) | (go_at_call 65; refine (M6.out _).mono ?_; rintro e w1 ⟨rfl, rfl⟩) | (go_at_call 66; refine (M7.out _).mono ?_; rintro e w1 ⟨rfl, rfl⟩; try clear M5))
  all_goals (
    refine bodyPost_ret (results_tok1 rfl rfl (heap_alloc_new _ _)) rfl ?_
    exact ⟨rfl, BE.out.alloc (Nat.le_refl _) _⟩)
set_option maxHeartbeats 2000000 in
set_option maxRecDepth 100000 in
theorem bare_short (s : ByteArray) (hs : s.size ≤ 1048576) (w : World) (h0 : 0 < s.size) (hc : cb s 0 = 35) (h2 : s.size ≤ 2) : Calls Tryd.prog 49 #[.string s] w fun e w' => e = .returned (noTok) ∧ Below w.heap.size w w' := by
  have hd : bDig (cb s 0) = false := by rw [hc]; rfl
  have n1 : ¬ isNum s 0 s.size := (no_num (s := s) (p := 0) (e := s.size) hd).1
  have n2 : ¬ isDec s 0 s.size := (no_num (s := s) (p := 0) (e := s.size) hd).2
  have M1 : Hid (∀ W, Calls Tryd.prog 61 #[.string s] W fun e w' => e = .returned (.bool false) ∧ W = w') := Lib.hid (fun W => (numeral_any s hs W).mono fun e w' h => says_f h n1)
  have M2 : Hid (∀ W, Calls Tryd.prog 62 #[.string s] W fun e w' => e = .returned (.bool false) ∧ W = w') := Lib.hid (fun W => (decimal_any s hs W).mono fun e w' h => says_f h n2)
  clear n1 n2
  have hb0 := cb_at h0
  have M7 : Hid (∀ W, Calls Tryd.prog 66 #[.int .u8 ((cb s 0 : Nat) : Int)] W fun e w' => e = .returned (.bool false) ∧ W = w') := Lib.hid (fun W => (digit6_any _ (cb_lt s 0) W).mono fun e w' h => ⟨by rw [h.1, hd], h.2⟩)
  have M6 : Hid (∀ W, Calls Tryd.prog 65 #[.string s] W fun e w' => e = .returned (.bool false) ∧ W = w') := Lib.hid (fun W => (bytes_any s hs W).mono fun e w' h => says_f h (fun h => by have := h.2 0 (Nat.le_refl _) h0; rw [hc] at this; cases this))
  rw [hc] at M7 hb0
  have BE := Lib.hid (Below.refl w.heap.size w)
  clear hd hc
  go_enter Tryd.func49, Tryd.ntmps49
  go_wp2_with (first | (go_at_call 61; refine (M1.out _).mono ?_; rintro e w1 ⟨rfl, rfl⟩) | (go_at_call 62; refine (M2.out _).mono ?_; rintro e w1 ⟨rfl, rfl⟩) | (go_at_call 63; refine (M3.out _).mono ?_; rintro e w1 ⟨rfl, rfl⟩) | (go_at_call 63; refine (M4.out _).mono ?_; rintro e w1 ⟨rfl, rfl⟩) | (go_at_call 65; refine (M5.out _).mono ?_; rintro e w1 ⟨rfl, rfl⟩) | (go_at_call 65; refine (M6.out _).mono ?_; rintro e w1 ⟨rfl, rfl⟩) | (go_at_call 66; refine (M7.out _).mono ?_; rintro e w1 ⟨rfl, rfl⟩; try clear M5))
  all_goals (
    refine bodyPost_ret (results_tok1 rfl rfl (heap_alloc_new _ _)) rfl ?_
    exact ⟨rfl, BE.out.alloc (Nat.le_refl _) _⟩)
set_option maxHeartbeats 2000000 in
set_option maxRecDepth 100000 in
theorem bare_key_2 (s : ByteArray) (hs : s.size ≤ 1048576) (w : World) (h0 : 0 < s.size) (hc : cb s 0 = 58) (n5 : (0 < (s.extract 1 s.size).size ∧ allP (s.extract 1 s.size) bSimple 0 (s.extract 1 s.size).size)) (h2 : 2 < s.size) (e1 : s.extract 0 2 ≠ ⟨#[35, 120]⟩) (e2 : s.extract 0 2 ≠ ⟨#[35, 98]⟩) : Calls Tryd.prog 49 #[.string s] w fun e w' => e = .returned (tokV 9 (s.extract 1 s.size) false 0 0) ∧ Below w.heap.size w w' := by
  have hd : bDig (cb s 0) = false := by rw [hc]; rfl
  have n1 : ¬ isNum s 0 s.size := (no_num (s := s) (p := 0) (e := s.size) hd).1
  have n2 : ¬ isDec s 0 s.size := (no_num (s := s) (p := 0) (e := s.size) hd).2
  have M1 : Hid (∀ W, Calls Tryd.prog 61 #[.string s] W fun e w' => e = .returned (.bool false) ∧ W = w') := Lib.hid (fun W => (numeral_any s hs W).mono fun e w' h => says_f h n1)
  have M2 : Hid (∀ W, Calls Tryd.prog 62 #[.string s] W fun e w' => e = .returned (.bool false) ∧ W = w') := Lib.hid (fun W => (decimal_any s hs W).mono fun e w' h => says_f h n2)
  clear n1 n2
  have M5 : Hid (∀ W, Calls Tryd.prog 65 #[.string (s.extract 1 s.size)] W fun e w' => e = .returned (.bool true) ∧ W = w') := Lib.hid (fun W => (bytes_any (s.extract 1 s.size) (by rw [size_ext (Nat.le_refl _)]; omega) W).mono fun e w' h => says_t h n5)
  have hb0 := cb_at h0
  rw [hc] at hb0
  have en1 : ¬ (s.extract 0 2).toList = [35, 120] := lst_ne e1
  have en2 : ¬ (s.extract 0 2).toList = [35, 98] := lst_ne e2
  have BE := Lib.hid (Below.refl w.heap.size w)
  clear e1 e2 n5 hd hc
  go_enter Tryd.func49, Tryd.ntmps49
  go_wp2_with (first | (go_at_call 61; refine (M1.out _).mono ?_; rintro e w1 ⟨rfl, rfl⟩) | (go_at_call 62; refine (M2.out _).mono ?_; rintro e w1 ⟨rfl, rfl⟩) | (go_at_call 63; refine (M3.out _).mono ?_; rintro e w1 ⟨rfl, rfl⟩) | (go_at_call 63; refine (M4.out _).mono ?_; rintro e w1 ⟨rfl, rfl⟩) | (go_at_call 65; refine (M5.out _).mono ?_; rintro e w1 ⟨rfl, rfl⟩) | (go_at_call 65; refine (M6.out _).mono ?_; rintro e w1 ⟨rfl, rfl⟩) | (go_at_call 66; refine (M7.out _).mono ?_; rintro e w1 ⟨rfl, rfl⟩; try clear M5))
  all_goals (
    refine bodyPost_ret (results_tok1 rfl rfl (heap_alloc_new _ _)) rfl ?_
    exact ⟨rfl, BE.out.alloc (Nat.le_refl _) _⟩)
set_option maxHeartbeats 2000000 in
set_option maxRecDepth 100000 in
theorem bare_key_1 (s : ByteArray) (hs : s.size ≤ 1048576) (w : World) (h0 : 0 < s.size) (hc : cb s 0 = 58) (n5 : (0 < (s.extract 1 s.size).size ∧ allP (s.extract 1 s.size) bSimple 0 (s.extract 1 s.size).size)) (h2 : s.size ≤ 2) : Calls Tryd.prog 49 #[.string s] w fun e w' => e = .returned (tokV 9 (s.extract 1 s.size) false 0 0) ∧ Below w.heap.size w w' := by
  have hd : bDig (cb s 0) = false := by rw [hc]; rfl
  have n1 : ¬ isNum s 0 s.size := (no_num (s := s) (p := 0) (e := s.size) hd).1
  have n2 : ¬ isDec s 0 s.size := (no_num (s := s) (p := 0) (e := s.size) hd).2
  have M1 : Hid (∀ W, Calls Tryd.prog 61 #[.string s] W fun e w' => e = .returned (.bool false) ∧ W = w') := Lib.hid (fun W => (numeral_any s hs W).mono fun e w' h => says_f h n1)
  have M2 : Hid (∀ W, Calls Tryd.prog 62 #[.string s] W fun e w' => e = .returned (.bool false) ∧ W = w') := Lib.hid (fun W => (decimal_any s hs W).mono fun e w' h => says_f h n2)
  clear n1 n2
  have M5 : Hid (∀ W, Calls Tryd.prog 65 #[.string (s.extract 1 s.size)] W fun e w' => e = .returned (.bool true) ∧ W = w') := Lib.hid (fun W => (bytes_any (s.extract 1 s.size) (by rw [size_ext (Nat.le_refl _)]; omega) W).mono fun e w' h => says_t h n5)
  have hb0 := cb_at h0
  rw [hc] at hb0
  have BE := Lib.hid (Below.refl w.heap.size w)
  clear n5 hd hc
  go_enter Tryd.func49, Tryd.ntmps49
  go_wp2_with (first | (go_at_call 61; refine (M1.out _).mono ?_; rintro e w1 ⟨rfl, rfl⟩) | (go_at_call 62; refine (M2.out _).mono ?_; rintro e w1 ⟨rfl, rfl⟩) | (go_at_call 63; refine (M3.out _).mono ?_; rintro e w1 ⟨rfl, rfl⟩) | (go_at_call 63; refine (M4.out _).mono ?_; rintro e w1 ⟨rfl, rfl⟩) | (go_at_call 65; refine (M5.out _).mono ?_; rintro e w1 ⟨rfl, rfl⟩) | (go_at_call 65; refine (M6.out _).mono ?_; rintro e w1 ⟨rfl, rfl⟩) | (go_at_call 66; refine (M7.out _).mono ?_; rintro e w1 ⟨rfl, rfl⟩; try clear M5))
  all_goals (
    refine bodyPost_ret (results_tok1 rfl rfl (heap_alloc_new _ _)) rfl ?_
    exact ⟨rfl, BE.out.alloc (Nat.le_refl _) _⟩)
set_option maxHeartbeats 2000000 in
set_option maxRecDepth 100000 in
theorem bare_keybad_2 (s : ByteArray) (hs : s.size ≤ 1048576) (w : World) (h0 : 0 < s.size) (hc : cb s 0 = 58) (n5 : ¬ (0 < (s.extract 1 s.size).size ∧ allP (s.extract 1 s.size) bSimple 0 (s.extract 1 s.size).size)) (h2 : 2 < s.size) (e1 : s.extract 0 2 ≠ ⟨#[35, 120]⟩) (e2 : s.extract 0 2 ≠ ⟨#[35, 98]⟩) : Calls Tryd.prog 49 #[.string s] w fun e w' => e = .returned (noTok) ∧ Below w.heap.size w w' := by
  have hd : bDig (cb s 0) = false := by rw [hc]; rfl
  have n1 : ¬ isNum s 0 s.size := (no_num (s := s) (p := 0) (e := s.size) hd).1
  have n2 : ¬ isDec s 0 s.size := (no_num (s := s) (p := 0) (e := s.size) hd).2
  have M1 : Hid (∀ W, Calls Tryd.prog 61 #[.string s] W fun e w' => e = .returned (.bool false) ∧ W = w') := Lib.hid (fun W => (numeral_any s hs W).mono fun e w' h => says_f h n1)
  have M2 : Hid (∀ W, Calls Tryd.prog 62 #[.string s] W fun e w' => e = .returned (.bool false) ∧ W = w') := Lib.hid (fun W => (decimal_any s hs W).mono fun e w' h => says_f h n2)
  clear n1 n2
  have M5 : Hid (∀ W, Calls Tryd.prog 65 #[.string (s.extract 1 s.size)] W fun e w' => e = .returned (.bool false) ∧ W = w') := Lib.hid (fun W => (bytes_any (s.extract 1 s.size) (by rw [size_ext (Nat.le_refl _)]; omega) W).mono fun e w' h => says_f h n5)
  have hb0 := cb_at h0
  have M7 : Hid (∀ W, Calls Tryd.prog 66 #[.int .u8 ((cb s 0 : Nat) : Int)] W fun e w' => e = .returned (.bool false) ∧ W = w') := Lib.hid (fun W => (digit6_any _ (cb_lt s 0) W).mono fun e w' h => ⟨by rw [h.1, hd], h.2⟩)
  have M6 : Hid (∀ W, Calls Tryd.prog 65 #[.string s] W fun e w' => e = .returned (.bool false) ∧ W = w') := Lib.hid (fun W => (bytes_any s hs W).mono fun e w' h => says_f h (fun h => by have := h.2 0 (Nat.le_refl _) h0; rw [hc] at this; cases this))
  rw [hc] at M7 hb0
  have en1 : ¬ (s.extract 0 2).toList = [35, 120] := lst_ne e1
  have en2 : ¬ (s.extract 0 2).toList = [35, 98] := lst_ne e2
  have BE := Lib.hid (Below.refl w.heap.size w)
  clear e1 e2 n5 hd hc
  go_enter Tryd.func49, Tryd.ntmps49
  go_wp2_with (first | (go_at_call 61; refine (M1.out _).mono ?_; rintro e w1 ⟨rfl, rfl⟩) | (go_at_call 62; refine (M2.out _).mono ?_; rintro e w1 ⟨rfl, rfl⟩) | (go_at_call 63; refine (M3.out _).mono ?_; rintro e w1 ⟨rfl, rfl⟩) | (go_at_call 63; refine (M4.out _).mono ?_; rintro e w1 ⟨rfl, rfl⟩) | (go_at_call 65; refine (M5.out _).mono ?_; rintro e w1 ⟨rfl, rfl⟩) | (go_at_call 65; refine (M6.out _).mono ?_; rintro e w1 ⟨rfl, rfl⟩) | (go_at_call 66; refine (M7.out _).mono ?_; rintro e w1 ⟨rfl, rfl⟩; try clear M5))
  all_goals (
    refine bodyPost_ret (results_tok1 rfl rfl (heap_alloc_new _ _)) rfl ?_
    exact ⟨rfl, BE.out.alloc (Nat.le_refl _) _⟩)
set_option maxHeartbeats 2000000 in
set_option maxRecDepth 100000 in
theorem bare_keybad_1 (s : ByteArray) (hs : s.size ≤ 1048576) (w : World) (h0 : 0 < s.size) (hc : cb s 0 = 58) (n5 : ¬ (0 < (s.extract 1 s.size).size ∧ allP (s.extract 1 s.size) bSimple 0 (s.extract 1 s.size).size)) (h2 : s.size ≤ 2) : Calls Tryd.prog 49 #[.string s] w fun e w' => e = .returned (noTok) ∧ Below w.heap.size w w' := by
  have hd : bDig (cb s 0) = false := by rw [hc]; rfl
  have n1 : ¬ isNum s 0 s.size := (no_num (s := s) (p := 0) (e := s.size) hd).1
  have n2 : ¬ isDec s 0 s.size := (no_num (s := s) (p := 0) (e := s.size) hd).2
  have M1 : Hid (∀ W, Calls Tryd.prog 61 #[.string s] W fun e w' => e = .returned (.bool false) ∧ W = w') := Lib.hid (fun W => (numeral_any s hs W).mono fun e w' h => says_f h n1)
  have M2 : Hid (∀ W, Calls Tryd.prog 62 #[.string s] W fun e w' => e = .returned (.bool false) ∧ W = w') := Lib.hid (fun W => (decimal_any s hs W).mono fun e w' h => says_f h n2)
  clear n1 n2
  have M5 : Hid (∀ W, Calls Tryd.prog 65 #[.string (s.extract 1 s.size)] W fun e w' => e = .returned (.bool false) ∧ W = w') := Lib.hid (fun W => (bytes_any (s.extract 1 s.size) (by rw [size_ext (Nat.le_refl _)]; omega) W).mono fun e w' h => says_f h n5)
  have hb0 := cb_at h0
  have M7 : Hid (∀ W, Calls Tryd.prog 66 #[.int .u8 ((cb s 0 : Nat) : Int)] W fun e w' => e = .returned (.bool false) ∧ W = w') := Lib.hid (fun W => (digit6_any _ (cb_lt s 0) W).mono fun e w' h => ⟨by rw [h.1, hd], h.2⟩)
  have M6 : Hid (∀ W, Calls Tryd.prog 65 #[.string s] W fun e w' => e = .returned (.bool false) ∧ W = w') := Lib.hid (fun W => (bytes_any s hs W).mono fun e w' h => says_f h (fun h => by have := h.2 0 (Nat.le_refl _) h0; rw [hc] at this; cases this))
  rw [hc] at M7 hb0
  have BE := Lib.hid (Below.refl w.heap.size w)
  clear n5 hd hc
  go_enter Tryd.func49, Tryd.ntmps49
  go_wp2_with (first | (go_at_call 61; refine (M1.out _).mono ?_; rintro e w1 ⟨rfl, rfl⟩) | (go_at_call 62; refine (M2.out _).mono ?_; rintro e w1 ⟨rfl, rfl⟩) | (go_at_call 63; refine (M3.out _).mono ?_; rintro e w1 ⟨rfl, rfl⟩) | (go_at_call 63; refine (M4.out _).mono ?_; rintro e w1 ⟨rfl, rfl⟩) | (go_at_call 65; refine (M5.out _).mono ?_; rintro e w1 ⟨rfl, rfl⟩) | (go_at_call 65; refine (M6.out _).mono ?_; rintro e w1 ⟨rfl, rfl⟩) | (go_at_call 66; refine (M7.out _).mono ?_; rintro e w1 ⟨rfl, rfl⟩; try clear M5))
  all_goals (
    refine bodyPost_ret (results_tok1 rfl rfl (heap_alloc_new _ _)) rfl ?_
    exact ⟨rfl, BE.out.alloc (Nat.le_refl _) _⟩)
set_option maxHeartbeats 2000000 in
set_option maxRecDepth 100000 in
theorem bare_dig_2 (s : ByteArray) (hs : s.size ≤ 1048576) (w : World) (h0 : 0 < s.size) (hc : cb s 0 ≠ 58) (hd : bDig (cb s 0) = true) (n1 : ¬ isNum s 0 s.size) (n2 : ¬ isDec s 0 s.size) (h2 : 2 < s.size) (e1 : s.extract 0 2 ≠ ⟨#[35, 120]⟩) (e2 : s.extract 0 2 ≠ ⟨#[35, 98]⟩) : Calls Tryd.prog 49 #[.string s] w fun e w' => e = .returned (noTok) ∧ Below w.heap.size w w' := by
  have hb0 := cb_at h0
  have e58 : ((cb s 0 : Int) == 58) = false := ne_i (k := 58) hc
  have M1 : Hid (∀ W, Calls Tryd.prog 61 #[.string s] W fun e w' => e = .returned (.bool false) ∧ W = w') := Lib.hid (fun W => (numeral_any s hs W).mono fun e w' h => says_f h n1)
  have M2 : Hid (∀ W, Calls Tryd.prog 62 #[.string s] W fun e w' => e = .returned (.bool false) ∧ W = w') := Lib.hid (fun W => (decimal_any s hs W).mono fun e w' h => says_f h n2)
  have M7 : Hid (∀ W, Calls Tryd.prog 66 #[.int .u8 ((cb s 0 : Nat) : Int)] W fun e w' => e = .returned (.bool true) ∧ W = w') := Lib.hid (fun W => (digit6_any _ (cb_lt s 0) W).mono fun e w' h => ⟨by rw [h.1, hd], h.2⟩)
  have en1 : ¬ (s.extract 0 2).toList = [35, 120] := lst_ne e1
  have en2 : ¬ (s.extract 0 2).toList = [35, 98] := lst_ne e2
  have BE := Lib.hid (Below.refl w.heap.size w)
  clear e1 e2 n1 n2 hd hc
  go_enter Tryd.func49, Tryd.ntmps49
  go_wp2_with (first | (go_at_call 61; refine (M1.out _).mono ?_; rintro e w1 ⟨rfl, rfl⟩) | (go_at_call 62; refine (M2.out _).mono ?_; rintro e w1 ⟨rfl, rfl⟩) | (go_at_call 63; refine (M3.out _).mono ?_; rintro e w1 ⟨rfl, rfl⟩) | (go_at_call 63; refine (M4.out _).mono ?_; rintro e w1 ⟨rfl, rfl⟩) | (go_at_call 65; refine (M5.out _).mono ?_; rintro e w1 ⟨rfl, rfl⟩) | (go_at_call 65; refine (M6.out _).mono ?_; rintro e w1 ⟨rfl, rfl⟩) | (go_at_call 66; refine (M7.out _).mono ?_; rintro e w1 ⟨rfl, rfl⟩; try clear M5))
  all_goals (
    refine bodyPost_ret (results_tok1 rfl rfl (heap_alloc_new _ _)) rfl ?_
    exact ⟨rfl, BE.out.alloc (Nat.le_refl _) _⟩)
set_option maxHeartbeats 2000000 in
set_option maxRecDepth 100000 in
theorem bare_dig_1 (s : ByteArray) (hs : s.size ≤ 1048576) (w : World) (h0 : 0 < s.size) (hc : cb s 0 ≠ 58) (hd : bDig (cb s 0) = true) (n1 : ¬ isNum s 0 s.size) (n2 : ¬ isDec s 0 s.size) (h2 : s.size ≤ 2) : Calls Tryd.prog 49 #[.string s] w fun e w' => e = .returned (noTok) ∧ Below w.heap.size w w' := by
  have hb0 := cb_at h0
  have e58 : ((cb s 0 : Int) == 58) = false := ne_i (k := 58) hc
  have M1 : Hid (∀ W, Calls Tryd.prog 61 #[.string s] W fun e w' => e = .returned (.bool false) ∧ W = w') := Lib.hid (fun W => (numeral_any s hs W).mono fun e w' h => says_f h n1)
  have M2 : Hid (∀ W, Calls Tryd.prog 62 #[.string s] W fun e w' => e = .returned (.bool false) ∧ W = w') := Lib.hid (fun W => (decimal_any s hs W).mono fun e w' h => says_f h n2)
  have M7 : Hid (∀ W, Calls Tryd.prog 66 #[.int .u8 ((cb s 0 : Nat) : Int)] W fun e w' => e = .returned (.bool true) ∧ W = w') := Lib.hid (fun W => (digit6_any _ (cb_lt s 0) W).mono fun e w' h => ⟨by rw [h.1, hd], h.2⟩)
  have BE := Lib.hid (Below.refl w.heap.size w)
  clear n1 n2 hd hc
  go_enter Tryd.func49, Tryd.ntmps49
  go_wp2_with (first | (go_at_call 61; refine (M1.out _).mono ?_; rintro e w1 ⟨rfl, rfl⟩) | (go_at_call 62; refine (M2.out _).mono ?_; rintro e w1 ⟨rfl, rfl⟩) | (go_at_call 63; refine (M3.out _).mono ?_; rintro e w1 ⟨rfl, rfl⟩) | (go_at_call 63; refine (M4.out _).mono ?_; rintro e w1 ⟨rfl, rfl⟩) | (go_at_call 65; refine (M5.out _).mono ?_; rintro e w1 ⟨rfl, rfl⟩) | (go_at_call 65; refine (M6.out _).mono ?_; rintro e w1 ⟨rfl, rfl⟩) | (go_at_call 66; refine (M7.out _).mono ?_; rintro e w1 ⟨rfl, rfl⟩; try clear M5))
  all_goals (
    refine bodyPost_ret (results_tok1 rfl rfl (heap_alloc_new _ _)) rfl ?_
    exact ⟨rfl, BE.out.alloc (Nat.le_refl _) _⟩)
set_option maxHeartbeats 2000000 in
set_option maxRecDepth 100000 in
theorem bare_word_2 (s : ByteArray) (hs : s.size ≤ 1048576) (w : World) (h0 : 0 < s.size) (hc : cb s 0 ≠ 58) (hd : bDig (cb s 0) = false) (n6 : (0 < s.size ∧ allP s bSimple 0 s.size)) (h2 : 2 < s.size) (e1 : s.extract 0 2 ≠ ⟨#[35, 120]⟩) (e2 : s.extract 0 2 ≠ ⟨#[35, 98]⟩) : Calls Tryd.prog 49 #[.string s] w fun e w' => e = .returned (tokV 8 s false 0 0) ∧ Below w.heap.size w w' := by
  have hb0 := cb_at h0
  have e58 : ((cb s 0 : Int) == 58) = false := ne_i (k := 58) hc
  have n1 : ¬ isNum s 0 s.size := (no_num (s := s) (p := 0) (e := s.size) hd).1
  have n2 : ¬ isDec s 0 s.size := (no_num (s := s) (p := 0) (e := s.size) hd).2
  have M1 : Hid (∀ W, Calls Tryd.prog 61 #[.string s] W fun e w' => e = .returned (.bool false) ∧ W = w') := Lib.hid (fun W => (numeral_any s hs W).mono fun e w' h => says_f h n1)
  have M2 : Hid (∀ W, Calls Tryd.prog 62 #[.string s] W fun e w' => e = .returned (.bool false) ∧ W = w') := Lib.hid (fun W => (decimal_any s hs W).mono fun e w' h => says_f h n2)
  have M7 : Hid (∀ W, Calls Tryd.prog 66 #[.int .u8 ((cb s 0 : Nat) : Int)] W fun e w' => e = .returned (.bool false) ∧ W = w') := Lib.hid (fun W => (digit6_any _ (cb_lt s 0) W).mono fun e w' h => ⟨by rw [h.1, hd], h.2⟩)
  have M6 : Hid (∀ W, Calls Tryd.prog 65 #[.string s] W fun e w' => e = .returned (.bool true) ∧ W = w') := Lib.hid (fun W => (bytes_any s hs W).mono fun e w' h => says_t h n6)
  have en1 : ¬ (s.extract 0 2).toList = [35, 120] := lst_ne e1
  have en2 : ¬ (s.extract 0 2).toList = [35, 98] := lst_ne e2
  have BE := Lib.hid (Below.refl w.heap.size w)
  clear e1 e2 n1 n2 n6 hd hc
  go_enter Tryd.func49, Tryd.ntmps49
  go_wp2_with (first | (go_at_call 61; refine (M1.out _).mono ?_; rintro e w1 ⟨rfl, rfl⟩) | (go_at_call 62; refine (M2.out _).mono ?_; rintro e w1 ⟨rfl, rfl⟩) | (go_at_call 63; refine (M3.out _).mono ?_; rintro e w1 ⟨rfl, rfl⟩) | (go_at_call 63; refine (M4.out _).mono ?_; rintro e w1 ⟨rfl, rfl⟩) | (go_at_call 65; refine (M5.out _).mono ?_; rintro e w1 ⟨rfl, rfl⟩) | (go_at_call 65; refine (M6.out _).mono ?_; rintro e w1 ⟨rfl, rfl⟩) | (go_at_call 66; refine (M7.out _).mono ?_; rintro e w1 ⟨rfl, rfl⟩; try clear M5))
  all_goals (
    refine bodyPost_ret (results_tok1 rfl rfl (heap_alloc_new _ _)) rfl ?_
    exact ⟨rfl, BE.out.alloc (Nat.le_refl _) _⟩)
set_option maxHeartbeats 2000000 in
set_option maxRecDepth 100000 in
theorem bare_word_1 (s : ByteArray) (hs : s.size ≤ 1048576) (w : World) (h0 : 0 < s.size) (hc : cb s 0 ≠ 58) (hd : bDig (cb s 0) = false) (n6 : (0 < s.size ∧ allP s bSimple 0 s.size)) (h2 : s.size ≤ 2) : Calls Tryd.prog 49 #[.string s] w fun e w' => e = .returned (tokV 8 s false 0 0) ∧ Below w.heap.size w w' := by
  have hb0 := cb_at h0
  have e58 : ((cb s 0 : Int) == 58) = false := ne_i (k := 58) hc
  have n1 : ¬ isNum s 0 s.size := (no_num (s := s) (p := 0) (e := s.size) hd).1
  have n2 : ¬ isDec s 0 s.size := (no_num (s := s) (p := 0) (e := s.size) hd).2
  have M1 : Hid (∀ W, Calls Tryd.prog 61 #[.string s] W fun e w' => e = .returned (.bool false) ∧ W = w') := Lib.hid (fun W => (numeral_any s hs W).mono fun e w' h => says_f h n1)
  have M2 : Hid (∀ W, Calls Tryd.prog 62 #[.string s] W fun e w' => e = .returned (.bool false) ∧ W = w') := Lib.hid (fun W => (decimal_any s hs W).mono fun e w' h => says_f h n2)
  have M7 : Hid (∀ W, Calls Tryd.prog 66 #[.int .u8 ((cb s 0 : Nat) : Int)] W fun e w' => e = .returned (.bool false) ∧ W = w') := Lib.hid (fun W => (digit6_any _ (cb_lt s 0) W).mono fun e w' h => ⟨by rw [h.1, hd], h.2⟩)
  have M6 : Hid (∀ W, Calls Tryd.prog 65 #[.string s] W fun e w' => e = .returned (.bool true) ∧ W = w') := Lib.hid (fun W => (bytes_any s hs W).mono fun e w' h => says_t h n6)
  have BE := Lib.hid (Below.refl w.heap.size w)
  clear n1 n2 n6 hd hc
  go_enter Tryd.func49, Tryd.ntmps49
  go_wp2_with (first | (go_at_call 61; refine (M1.out _).mono ?_; rintro e w1 ⟨rfl, rfl⟩) | (go_at_call 62; refine (M2.out _).mono ?_; rintro e w1 ⟨rfl, rfl⟩) | (go_at_call 63; refine (M3.out _).mono ?_; rintro e w1 ⟨rfl, rfl⟩) | (go_at_call 63; refine (M4.out _).mono ?_; rintro e w1 ⟨rfl, rfl⟩) | (go_at_call 65; refine (M5.out _).mono ?_; rintro e w1 ⟨rfl, rfl⟩) | (go_at_call 65; refine (M6.out _).mono ?_; rintro e w1 ⟨rfl, rfl⟩) | (go_at_call 66; refine (M7.out _).mono ?_; rintro e w1 ⟨rfl, rfl⟩; try clear M5))
  all_goals (
    refine bodyPost_ret (results_tok1 rfl rfl (heap_alloc_new _ _)) rfl ?_
    exact ⟨rfl, BE.out.alloc (Nat.le_refl _) _⟩)
set_option maxHeartbeats 2000000 in
set_option maxRecDepth 100000 in
theorem bare_wordbad_2 (s : ByteArray) (hs : s.size ≤ 1048576) (w : World) (h0 : 0 < s.size) (hc : cb s 0 ≠ 58) (hd : bDig (cb s 0) = false) (n6 : ¬ (0 < s.size ∧ allP s bSimple 0 s.size)) (h2 : 2 < s.size) (e1 : s.extract 0 2 ≠ ⟨#[35, 120]⟩) (e2 : s.extract 0 2 ≠ ⟨#[35, 98]⟩) : Calls Tryd.prog 49 #[.string s] w fun e w' => e = .returned (noTok) ∧ Below w.heap.size w w' := by
  have hb0 := cb_at h0
  have e58 : ((cb s 0 : Int) == 58) = false := ne_i (k := 58) hc
  have n1 : ¬ isNum s 0 s.size := (no_num (s := s) (p := 0) (e := s.size) hd).1
  have n2 : ¬ isDec s 0 s.size := (no_num (s := s) (p := 0) (e := s.size) hd).2
  have M1 : Hid (∀ W, Calls Tryd.prog 61 #[.string s] W fun e w' => e = .returned (.bool false) ∧ W = w') := Lib.hid (fun W => (numeral_any s hs W).mono fun e w' h => says_f h n1)
  have M2 : Hid (∀ W, Calls Tryd.prog 62 #[.string s] W fun e w' => e = .returned (.bool false) ∧ W = w') := Lib.hid (fun W => (decimal_any s hs W).mono fun e w' h => says_f h n2)
  have M7 : Hid (∀ W, Calls Tryd.prog 66 #[.int .u8 ((cb s 0 : Nat) : Int)] W fun e w' => e = .returned (.bool false) ∧ W = w') := Lib.hid (fun W => (digit6_any _ (cb_lt s 0) W).mono fun e w' h => ⟨by rw [h.1, hd], h.2⟩)
  have M6 : Hid (∀ W, Calls Tryd.prog 65 #[.string s] W fun e w' => e = .returned (.bool false) ∧ W = w') := Lib.hid (fun W => (bytes_any s hs W).mono fun e w' h => says_f h n6)
  have en1 : ¬ (s.extract 0 2).toList = [35, 120] := lst_ne e1
  have en2 : ¬ (s.extract 0 2).toList = [35, 98] := lst_ne e2
  have BE := Lib.hid (Below.refl w.heap.size w)
  clear e1 e2 n1 n2 n6 hd hc
  go_enter Tryd.func49, Tryd.ntmps49
  go_wp2_with (first | (go_at_call 61; refine (M1.out _).mono ?_; rintro e w1 ⟨rfl, rfl⟩) | (go_at_call 62; refine (M2.out _).mono ?_; rintro e w1 ⟨rfl, rfl⟩) | (go_at_call 63; refine (M3.out _).mono ?_; rintro e w1 ⟨rfl, rfl⟩) | (go_at_call 63; refine (M4.out _).mono ?_; rintro e w1 ⟨rfl, rfl⟩) | (go_at_call 65; refine (M5.out _).mono ?_; rintro e w1 ⟨rfl, rfl⟩) | (go_at_call 65; refine (M6.out _).mono ?_; rintro e w1 ⟨rfl, rfl⟩) | (go_at_call 66; refine (M7.out _).mono ?_; rintro e w1 ⟨rfl, rfl⟩; try clear M5))
  all_goals (
    refine bodyPost_ret (results_tok1 rfl rfl (heap_alloc_new _ _)) rfl ?_
    exact ⟨rfl, BE.out.alloc (Nat.le_refl _) _⟩)
set_option maxHeartbeats 2000000 in
set_option maxRecDepth 100000 in
theorem bare_wordbad_1 (s : ByteArray) (hs : s.size ≤ 1048576) (w : World) (h0 : 0 < s.size) (hc : cb s 0 ≠ 58) (hd : bDig (cb s 0) = false) (n6 : ¬ (0 < s.size ∧ allP s bSimple 0 s.size)) (h2 : s.size ≤ 2) : Calls Tryd.prog 49 #[.string s] w fun e w' => e = .returned (noTok) ∧ Below w.heap.size w w' := by
  have hb0 := cb_at h0
  have e58 : ((cb s 0 : Int) == 58) = false := ne_i (k := 58) hc
  have n1 : ¬ isNum s 0 s.size := (no_num (s := s) (p := 0) (e := s.size) hd).1
  have n2 : ¬ isDec s 0 s.size := (no_num (s := s) (p := 0) (e := s.size) hd).2
  have M1 : Hid (∀ W, Calls Tryd.prog 61 #[.string s] W fun e w' => e = .returned (.bool false) ∧ W = w') := Lib.hid (fun W => (numeral_any s hs W).mono fun e w' h => says_f h n1)
  have M2 : Hid (∀ W, Calls Tryd.prog 62 #[.string s] W fun e w' => e = .returned (.bool false) ∧ W = w') := Lib.hid (fun W => (decimal_any s hs W).mono fun e w' h => says_f h n2)
  have M7 : Hid (∀ W, Calls Tryd.prog 66 #[.int .u8 ((cb s 0 : Nat) : Int)] W fun e w' => e = .returned (.bool false) ∧ W = w') := Lib.hid (fun W => (digit6_any _ (cb_lt s 0) W).mono fun e w' h => ⟨by rw [h.1, hd], h.2⟩)
  have M6 : Hid (∀ W, Calls Tryd.prog 65 #[.string s] W fun e w' => e = .returned (.bool false) ∧ W = w') := Lib.hid (fun W => (bytes_any s hs W).mono fun e w' h => says_f h n6)
  have BE := Lib.hid (Below.refl w.heap.size w)
  clear n1 n2 n6 hd hc
  go_enter Tryd.func49, Tryd.ntmps49
  go_wp2_with (first | (go_at_call 61; refine (M1.out _).mono ?_; rintro e w1 ⟨rfl, rfl⟩) | (go_at_call 62; refine (M2.out _).mono ?_; rintro e w1 ⟨rfl, rfl⟩) | (go_at_call 63; refine (M3.out _).mono ?_; rintro e w1 ⟨rfl, rfl⟩) | (go_at_call 63; refine (M4.out _).mono ?_; rintro e w1 ⟨rfl, rfl⟩) | (go_at_call 65; refine (M5.out _).mono ?_; rintro e w1 ⟨rfl, rfl⟩) | (go_at_call 65; refine (M6.out _).mono ?_; rintro e w1 ⟨rfl, rfl⟩) | (go_at_call 66; refine (M7.out _).mono ?_; rintro e w1 ⟨rfl, rfl⟩; try clear M5))
  all_goals (
    refine bodyPost_ret (results_tok1 rfl rfl (heap_alloc_new _ _)) rfl ?_
    exact ⟨rfl, BE.out.alloc (Nat.le_refl _) _⟩)
set_option maxHeartbeats 2000000 in
set_option maxRecDepth 100000 in
theorem bare_hex (s : ByteArray) (hs : s.size ≤ 1048576) (w : World) (h0 : 0 < s.size) (hc : cb s 0 = 35) (h2 : 2 < s.size) (e0 : s.extract 0 2 = ⟨#[35, 120]⟩) (n3 : (0 < (s.extract 2 s.size).size ∧ allP (s.extract 2 s.size) bHex 0 (s.extract 2 s.size).size)) : Calls Tryd.prog 49 #[.string s] w fun e w' => e = .returned (tokV 5 (lowB (s.extract 2 s.size)) false 0 0) ∧ Below w.heap.size w w' := by
  have hd : bDig (cb s 0) = false := by rw [hc]; rfl
  have n1 : ¬ isNum s 0 s.size := (no_num (s := s) (p := 0) (e := s.size) hd).1
  have n2 : ¬ isDec s 0 s.size := (no_num (s := s) (p := 0) (e := s.size) hd).2
  have M1 : Hid (∀ W, Calls Tryd.prog 61 #[.string s] W fun e w' => e = .returned (.bool false) ∧ W = w') := Lib.hid (fun W => (numeral_any s hs W).mono fun e w' h => says_f h n1)
  have M2 : Hid (∀ W, Calls Tryd.prog 62 #[.string s] W fun e w' => e = .returned (.bool false) ∧ W = w') := Lib.hid (fun W => (decimal_any s hs W).mono fun e w' h => says_f h n2)
  clear n1 n2
  have M3 : Hid (∀ W, Calls Tryd.prog 63 #[.string (s.extract 2 s.size), .int .i64 16] W fun e w' => e = .returned (.bool true) ∧ W = w') := Lib.hid (fun W => (all16_any (s.extract 2 s.size) (by rw [size_ext (Nat.le_refl _)]; omega) W).mono fun e w' h => says_t h n3)
  have M8 : Hid (Calls Tryd.prog 64 #[.string (s.extract 2 s.size)] (w.alloc (Obj.cells #[.int .i64 0, .string ⟨#[]⟩, .bool false, .int .i64 0, .int .i64 0] 33)) fun e w' => e = .returned (.string (lowB (s.extract 2 s.size))) ∧ Below (w.alloc (Obj.cells #[.int .i64 0, .string ⟨#[]⟩, .bool false, .int .i64 0, .int .i64 0] 33)).heap.size (w.alloc (Obj.cells #[.int .i64 0, .string ⟨#[]⟩, .bool false, .int .i64 0, .int .i64 0] 33)) w') := Lib.hid (small_any _ (by rw [size_ext (Nat.le_refl _)]; omega) _)
  have HBK : Hid (∀ w1, Below (w.alloc (Obj.cells #[.int .i64 0, .string ⟨#[]⟩, .bool false, .int .i64 0, .int .i64 0] 33)).heap.size (w.alloc (Obj.cells #[.int .i64 0, .string ⟨#[]⟩, .bool false, .int .i64 0, .int .i64 0] 33)) w1 → Blk w1 w.heap.size) := Lib.hid (fun w1 h => (h.block _ (by simp)).trans (heap_alloc_new w (Obj.cells #[.int .i64 0, .string ⟨#[]⟩, .bool false, .int .i64 0, .int .i64 0] 33)))
  have BE := Lib.hid (Below.refl w.heap.size w)
  clear n3 hd hc
  go_enter Tryd.func49, Tryd.ntmps49
  go_wp2_with (first | (go_at_call 61; refine (M1.out _).mono ?_; rintro e w1 ⟨rfl, rfl⟩) | (go_at_call 62; refine (M2.out _).mono ?_; rintro e w1 ⟨rfl, rfl⟩) | (go_at_call 63; refine (M3.out _).mono ?_; rintro e w1 ⟨rfl, rfl⟩) | (go_at_call 63; refine (M4.out _).mono ?_; rintro e w1 ⟨rfl, rfl⟩) | (go_at_call 65; refine (M5.out _).mono ?_; rintro e w1 ⟨rfl, rfl⟩) | (go_at_call 65; refine (M6.out _).mono ?_; rintro e w1 ⟨rfl, rfl⟩) | (go_at_call 66; refine (M7.out _).mono ?_; rintro e w1 ⟨rfl, rfl⟩; try clear M5) | (go_at_call 64; refine M8.out.mono ?_; rintro e w1 ⟨rfl, hbw⟩; have HBW := Lib.hid hbw; clear hbw; obtain ⟨⟨k0, k1, k2, k3, k4⟩, j0, j1, j2, j3, j4⟩ := Blk.all (HBK.out _ HBW.out)))
  refine bodyPost_ret (results_tok1 rfl rfl (heap_set5 (HBK.out _ HBW.out))) rfl ?_
  exact ⟨rfl, (((((BE.out.alloc (Nat.le_refl _) _).trans (HBW.out.mono (by simp))).setCell (Nat.le_refl _) _).setCell (Nat.le_refl _) _).setCell (Nat.le_refl _) _).setCell (Nat.le_refl _) _ |>.setCell (Nat.le_refl _) _⟩
end Go.Proofs.YtlgcmpiobglbbaaDoor
