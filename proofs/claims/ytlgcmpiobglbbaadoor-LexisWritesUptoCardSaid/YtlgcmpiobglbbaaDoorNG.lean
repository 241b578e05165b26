/- lexis's reference: one. -/
import Derived.Test.YtlgcmpiobglbbaaDoorNF
set_option linter.unusedVariables false
set_option linter.unusedSimpArgs false
namespace Go.Proofs.YtlgcmpiobglbbaaDoor
open Go.RowKit Mth

/-- the answer of what reads one token -/
def OneO (w w' : World) (r : Res) (e : Ending) : Prop :=
  Below w.heap.size w w' ∧ ((∃ k t q n, r = .tok k t q n ∧ e = .returned (.tuple #[tokV k t q 0 0, .int .i64 (n : Int), .int .i64 0])) ∨ (∃ E : Nat, r = .err E ∧ E ≠ 0 ∧ e = .returned (.tuple #[noTok, .int .i64 0, .int .i64 (E : Int)])))
set_option maxRecDepth 100000 in
/-- a token, a place and an error come back: the token out of a block -/
theorem results_tok3 {fn : Func} {t u x : Tmp} {tmps : Array Value} {b : Nat} {v0 v1 v2 v3 v4 v5 v6 : Value} {T : TypeId} {W : World} (h : fn.results = #[.cell t 33, .tmp u, .tmp x])
    (h1 : tmps.getD t undef = .pointer (some ⟨b, 0, none⟩)) (h2 : tmps.getD u undef = v5) (h4 : tmps.getD x undef = v6) (h3 : W.heap[b]? = some (.cells #[v0, v1, v2, v3, v4] T (0, 0))) :
    (results fn tmps).run Tryd.prog W = .ok (.tuple #[.agg #[v0, v1, v2, v3, v4], v5, v6]) W := by
  obtain ⟨c0, c1, c2, c3, c4⟩ := blk5 h3
  rw [Array.getD_eq_getD_getElem?] at h1 h2 h4
  simp [results, h, h1, h2, h4, go_sem, c0, c1, c2, c3, c4]
theorem below_set5 {w w2 : World} {v0 v1 v2 v3 v4 : Value} {b : Nat} (h : Below w.heap.size w w2) (hb : w.heap.size ≤ b) :
    Below w.heap.size w (((((w2.setCell ⟨b, 0, none⟩ v0).setCell ⟨b, 1, none⟩ v1).setCell ⟨b, 2, none⟩ v2).setCell ⟨b, 3, none⟩ v3).setCell ⟨b, 4, none⟩ v4) :=
  ((((h.setCell hb _).setCell hb _).setCell hb _).setCell hb _).setCell hb _
def EaR (s : ByteArray) (p : Nat) (i : Value) : Prop := ∃ k : Nat, p ≤ k ∧ k ≤ s.size ∧ i = .int .i64 (k : Int) ∧ endAt s p = endAt s k
theorem end_next {s : ByteArray} {k : Nat} (h : k < s.size) (he : bEnd (cb s k) = false) : endAt s k = endAt s (k + 1) := by rw [endAt, if_pos h, if_neg (by rw [he]; simp)]
theorem end_here {s : ByteArray} {k : Nat} (h : k = s.size ∨ bEnd (cb s k) = true) : endAt s k = k := by
  rw [endAt]
  rcases h with h | h
  · rw [if_neg (by omega)]
  · split
    · simp
    · rfl
abbrev ZT : Obj := .cells #[.int .i64 0, .string ⟨#[]⟩, .bool false, .int .i64 0, .int .i64 0] 33
set_option maxHeartbeats 1000000 in
set_option maxRecDepth 100000 in
theorem one_bar (s : ByteArray) (p : Nat) (hp : p < s.size) (hs : s.size ≤ 1048576) (w : World) (c : Nat) (hc : cb s p = c) (h34 : c = 34 ∨ c = 124) (r : Res) (hr : oneF s p = r)
    (BT : ∀ W, Calls Tryd.prog 46 #[.string s, .int .i64 (p : Int)] W fun e w' => BtO W w' r e) :
    Calls Tryd.prog 28 #[.string s, .int .i64 (p : Int)] w fun e w' => OneO w w' r e := by
  have hbp := cb_at hp
  rw [hc] at hbp
  have HBT := Lib.hid BT
  have BE := Lib.hid (Below.refl w.heap.size w)
  have HBK : Hid (∀ w1, Below (w.alloc ZT).heap.size (w.alloc ZT) w1 → Blk w1 w.heap.size) := Lib.hid (fun w1 h => (h.block _ (by simp)).trans (heap_alloc_new w ZT))
  have HBL : Hid (∀ w1, Below (w.alloc ZT).heap.size (w.alloc ZT) w1 → ∀ o, Below w.heap.size w (w1.alloc o)) := Lib.hid (fun w1 h o => ((BE.out.alloc (Nat.le_refl _) _).trans (h.mono (by simp))).alloc (by have := h.size; simp at this; omega) o)
  have HBV : Hid (∀ w1, Below (w.alloc ZT).heap.size (w.alloc ZT) w1 → ∀ o, Blk (w1.alloc o) w.heap.size ∧ w.heap.size < w1.heap.size) := Lib.hid (fun w1 h o => by
    have hk : Blk w1 w.heap.size := (h.block _ (by simp)).trans (heap_alloc_new w ZT)
    have hl : w.heap.size < w1.heap.size := (Array.getElem?_eq_some_iff.1 hk).1
    exact ⟨(Below.heap_alloc w1 o _ hl).trans hk, hl⟩)
  clear hc BT
  rcases h34 with rfl | rfl
  all_goals (
    go_enter Tryd.func28, Tryd.ntmps28
    go_wp2_with fail
    refine (HBT.out _).mono ?_
    rintro e w1 ⟨hb, (⟨k, t, q, n, hr1, hk, rfl⟩ | ⟨hr1, rfl⟩)⟩
    · have HB := Lib.hid hb
      have HB1 := Lib.hid (HBK.out _ hb)
      obtain ⟨⟨k0, k1, k2, k3, k4⟩, j0, j1, j2, j3, j4⟩ := Blk.all HB1.out
      have hk0 : ((k : Int) == 0) = false := ne_i (k := 0) (by omega)
      have hlt := (HBV.out _ hb (.cells #[] 0)).2
      have HR1 := Lib.hid hr1
      clear hb hr1 hr hk
      unfold tokV
      go_wp2
      refine bodyPost_ret (results_tok3 rfl rfl rfl rfl ((Below.heap_alloc _ _ _ (by simpa [World.setCell] using hlt)).trans (heap_set5 HB1.out))) rfl ?_
      exact ⟨(below_set5 ((BE.out.alloc (Nat.le_refl _) _).trans (HB.out.mono (by simp))) (Nat.le_refl _)).alloc (by simp [World.setCell]; omega) _, .inl ⟨k, t, q, n, HR1.out, rfl⟩⟩
    · have HB := Lib.hid hb
      have HB1 := Lib.hid (HBK.out _ hb)
      obtain ⟨⟨k0, k1, k2, k3, k4⟩, j0, j1, j2, j3, j4⟩ := Blk.all HB1.out
      have hlt := (HBV.out _ hb (.cells #[] 0)).2
      have HR1 := Lib.hid hr1
      clear hb hr1 hr
      unfold noTok tokV
      go_wp2
      refine bodyPost_ret (results_tok3 rfl rfl rfl rfl ((Below.heap_alloc _ _ _ (by simpa [World.setCell] using hlt)).trans (heap_set5 HB1.out))) rfl ?_
      exact ⟨(below_set5 ((BE.out.alloc (Nat.le_refl _) _).trans (HB.out.mono (by simp))) (Nat.le_refl _)).alloc (by simp [World.setCell]; omega) _, .inr ⟨61, HR1.out, by omega, rfl⟩⟩)
set_option maxHeartbeats 1000000 in
set_option maxRecDepth 100000 in
theorem one_par6 (s : ByteArray) (p : Nat) (hp : p < s.size) (hs : s.size ≤ 1048576) (w : World) (hc : cb s p = 40 ∨ cb s p = 41) :
    Calls Tryd.prog 28 #[.string s, .int .i64 (p : Int)] w fun e w' => OneO w w' (oneF s p) e := by
  have hbp := cb_at hp
  have BE := Lib.hid (Below.refl w.heap.size w)
  rcases hc with hc | hc
  · have HX := Lib.hid (one_op hc)
    rw [hc] at hbp
    clear hc
    go_enter Tryd.func28, Tryd.ntmps28
    go_wp2
    refine bodyPost_ret (results_tok3 rfl rfl rfl rfl (heap_alloc_new _ _)) rfl ?_
    exact ⟨BE.out.alloc (Nat.le_refl _) _, .inl ⟨1, _, _, _, HX.out, rfl⟩⟩
  · have HX := Lib.hid (one_cl hc)
    rw [hc] at hbp
    clear hc
    go_enter Tryd.func28, Tryd.ntmps28
    go_wp2
    refine bodyPost_ret (results_tok3 rfl rfl rfl rfl (heap_alloc_new _ _)) rfl ?_
    exact ⟨BE.out.alloc (Nat.le_refl _) _, .inl ⟨2, _, _, _, HX.out, rfl⟩⟩
theorem one_none {s : ByteArray} {p : Nat} (h : cb s p ≠ 40 ∧ cb s p ≠ 41 ∧ cb s p ≠ 34 ∧ cb s p ≠ 124 ∧ cb s p ≠ 35 ∧ cb s p ≠ 58 ∧ bSimple (cb s p) = false) : oneF s p = .err 60 := by
  obtain ⟨h1, h2, h3, h4, h5, h6, h7⟩ := h
  unfold oneF; rw [if_neg h1, if_neg h2, if_neg h3, if_neg h4, if_pos ⟨h5, h6, h7⟩]
theorem one_bare {s : ByteArray} {p : Nat} (h : cb s p ≠ 40 ∧ cb s p ≠ 41 ∧ cb s p ≠ 34 ∧ cb s p ≠ 124) (h5 : cb s p = 35 ∨ cb s p = 58 ∨ bSimple (cb s p) = true) : oneF s p = bareF s p (endAt s p) := by
  obtain ⟨h1, h2, h3, h4⟩ := h
  unfold oneF; rw [if_neg h1, if_neg h2, if_neg h3, if_neg h4, if_neg (fun x => by
    rcases h5 with h | h | h
    · exact x.1 h
    · exact x.2.1 h
    · rw [x.2.2] at h; cases h)]
set_option maxHeartbeats 1000000 in
set_option maxRecDepth 100000 in
theorem one_none6 (s : ByteArray) (p : Nat) (hp : p < s.size) (hs : s.size ≤ 1048576) (w : World) (h : cb s p ≠ 40 ∧ cb s p ≠ 41 ∧ cb s p ≠ 34 ∧ cb s p ≠ 124 ∧ cb s p ≠ 35 ∧ cb s p ≠ 58 ∧ bSimple (cb s p) = false) :
    Calls Tryd.prog 28 #[.string s, .int .i64 (p : Int)] w fun e w' => OneO w w' (oneF s p) e := by
  have hbp := cb_at hp
  have BE := Lib.hid (Below.refl w.heap.size w)
  have HX := Lib.hid (one_none h)
  obtain ⟨h1, h2, h3, h4, h5, h6, h7⟩ := h
  have SB : Hid (∀ W, Calls Tryd.prog 47 #[.int .u8 ((cb s p : Nat) : Int)] W fun e w' => e = .returned (.bool false) ∧ W = w') := Lib.hid (fun W => (simple4_any _ (cb_lt s p) W).mono fun e w' ⟨x, y⟩ => ⟨by rw [x, h7], y⟩)
  have e1 : ((cb s p : Int) == 40) = false := ne_i (k := 40) h1
  have e2 : ((cb s p : Int) == 41) = false := ne_i (k := 41) h2
  have e3 : ((cb s p : Int) == 34) = false := ne_i (k := 34) h3
  have e4 : ((cb s p : Int) == 124) = false := ne_i (k := 124) h4
  have e5 : ((cb s p : Int) != 35) = true := by rw [bne_iff_ne]; omega
  have e6 : ((cb s p : Int) != 58) = true := by rw [bne_iff_ne]; omega
  clear h1 h2 h3 h4 h5 h6 h7
  go_enter Tryd.func28, Tryd.ntmps28
  go_wp2_with (go_at_call 47; refine (SB.out _).mono ?_; rintro e w1 ⟨rfl, rfl⟩)
  refine bodyPost_ret (results_tok3 rfl rfl rfl rfl (heap_alloc_new _ _)) rfl ?_
  exact ⟨BE.out.alloc (Nat.le_refl _) _, .inr ⟨60, HX.out, by omega, rfl⟩⟩
set_option maxHeartbeats 2000000 in
set_option maxRecDepth 100000 in
theorem one_bare6 (s : ByteArray) (p : Nat) (hp : p < s.size) (hs : s.size ≤ 1048576) (w : World) (h : cb s p ≠ 40 ∧ cb s p ≠ 41 ∧ cb s p ≠ 34 ∧ cb s p ≠ 124) (h5 : cb s p = 35 ∨ cb s p = 58 ∨ (cb s p ≠ 35 ∧ cb s p ≠ 58 ∧ bSimple (cb s p) = true)) :
    Calls Tryd.prog 28 #[.string s, .int .i64 (p : Int)] w fun e w' => OneO w w' (oneF s p) e := by
  have hbp := cb_at hp
  have BE := Lib.hid (Below.refl w.heap.size w)
  have HO := Lib.hid (one_bare (s := s) (p := p) h (by rcases h5 with h | h | h; exact .inl h; exact .inr (.inl h); exact .inr (.inr h.2.2)))
  have HNE : Hid (bEnd (cb s p) = false) := Lib.hid (by
    rcases h5 with h | h | h
    · rw [h]; rfl
    · rw [h]; rfl
    · exact simple_not_end h.2.2)
  have HBK : Hid (∀ w1, Below (w.alloc ZT).heap.size (w.alloc ZT) w1 → Blk w1 w.heap.size) := Lib.hid (fun w1 h => (h.block _ (by simp)).trans (heap_alloc_new w ZT))
  have HBV : Hid (∀ w1, Below (w.alloc ZT).heap.size (w.alloc ZT) w1 → ∀ o, Blk (w1.alloc o) w.heap.size ∧ w.heap.size < w1.heap.size) := Lib.hid (fun w1 h o => by
    have hk : Blk w1 w.heap.size := (h.block _ (by simp)).trans (heap_alloc_new w ZT)
    have hl : w.heap.size < w1.heap.size := (Array.getElem?_eq_some_iff.1 hk).1
    exact ⟨(Below.heap_alloc w1 o _ hl).trans hk, hl⟩)
  obtain ⟨h1, h2, h3, h4⟩ := h
  have SB : Hid (bSimple (cb s p) = true → ∀ W, Calls Tryd.prog 47 #[.int .u8 ((cb s p : Nat) : Int)] W fun e w' => e = .returned (.bool true) ∧ W = w') := Lib.hid (fun h W => (simple4_any _ (cb_lt s p) W).mono fun e w' ⟨x, y⟩ => ⟨by rw [x, h], y⟩)
  have e1 : ((cb s p : Int) == 40) = false := ne_i (k := 40) h1
  have e2 : ((cb s p : Int) == 41) = false := ne_i (k := 41) h2
  have e3 : ((cb s p : Int) == 34) = false := ne_i (k := 34) h3
  have e4 : ((cb s p : Int) == 124) = false := ne_i (k := 124) h4
  clear h1 h2 h3 h4
  rcases h5 with h5 | h5 | ⟨h5, h6, h7⟩
  · rw [h5] at hbp
    clear h5 e1 e2 e3 e4 SB
    go_enter Tryd.func28, Tryd.ntmps28
    go_wp2_with (go_at_call 47; refine (SB.out _).mono ?_; rintro e w1 ⟨rfl, rfl⟩)
    go_loop [10] (fun i => EaR s p i) (fun i => s.size - (intOf i).toNat)
    case atStart => exact ⟨p, Nat.le_refl _, by omega, rfl, rfl⟩
    case round =>
      obtain ⟨k, hpk, hk, rfl, he⟩ := hrel
      have HE := Lib.hid he
      clear he
      by_cases hlt : k < s.size
      · have hbk := cb_at hlt
        have EN : Hid (∀ W, Calls Tryd.prog 48 #[.int .u8 ((cb s k : Nat) : Int)] W fun e w' => e = .returned (.bool (bEnd (cb s k))) ∧ W = w') := Lib.hid (fun W => ends6_any _ (cb_lt s k) W)
        rcases Bool.eq_false_or_eq_true (bEnd (cb s k)) with hb | hb
        · rw [hb] at EN
          have HEA : Hid (endAt s p = k) := Lib.hid (HE.out.trans (end_here (.inr hb)))
          have hpk1 : p < k := by
            have h1 := end_next hp HNE.out
            have h2 := (endAt_spec (s := s) s.size (p := p + 1) (by omega) (by omega)).1
            have h3 := HEA.out
            omega
          have BR : Hid (∀ W, Calls Tryd.prog 49 #[.string (s.extract p k)] W fun e w' => BareO W w' (bareF s p k) k e) := Lib.hid (fun W => bare_any s p k hpk1 hk hs W)
          have HOB : Hid (oneF s p = bareF s p k) := Lib.hid (by rw [HO.out, HEA.out])
          clear hb
          go_wp2_with (go_at_call 48; refine (EN.out _).mono ?_; rintro e w1 ⟨rfl, rfl⟩)
          refine (BR.out _).mono ?_
          rintro e w1 ⟨hb, (⟨kk, t, hr1, hk0', rfl⟩ | ⟨hr1, rfl⟩)⟩
          · have HB := Lib.hid hb
            have HB1 := Lib.hid (HBK.out _ hb)
            obtain ⟨⟨k0, k1, k2, k3, k4⟩, j0, j1, j2, j3, j4⟩ := Blk.all HB1.out
            have hk0 : ((kk : Int) == 0) = false := ne_i (k := 0) (by omega)
            have hlt2 := (HBV.out _ hb (.cells #[] 0)).2
            have HR1 := Lib.hid (HOB.out.trans hr1)
            clear hb hr1
            unfold tokV
            go_wp2
            refine bodyPost_ret (results_tok3 rfl rfl rfl rfl ((Below.heap_alloc _ _ _ (by simpa [World.setCell] using hlt2)).trans (heap_set5 HB1.out))) rfl ?_
            exact ⟨(below_set5 ((BE.out.alloc (Nat.le_refl _) _).trans (HB.out.mono (by simp))) (Nat.le_refl _)).alloc (by simp [World.setCell]; omega) _, .inl ⟨kk, t, false, k, HR1.out, rfl⟩⟩
          · have HB := Lib.hid hb
            have HB1 := Lib.hid (HBK.out _ hb)
            obtain ⟨⟨k0, k1, k2, k3, k4⟩, j0, j1, j2, j3, j4⟩ := Blk.all HB1.out
            have hlt2 := (HBV.out _ hb (.cells #[] 0)).2
            have HR1 := Lib.hid (HOB.out.trans hr1)
            clear hb hr1
            unfold noTok tokV
            go_wp2
            refine bodyPost_ret (results_tok3 rfl rfl rfl rfl ((Below.heap_alloc _ _ _ (by simpa [World.setCell] using hlt2)).trans (heap_set5 HB1.out))) rfl ?_
            exact ⟨(below_set5 ((BE.out.alloc (Nat.le_refl _) _).trans (HB.out.mono (by simp))) (Nat.le_refl _)).alloc (by simp [World.setCell]; omega) _, .inr ⟨62, HR1.out, by omega, rfl⟩⟩
        · have HS := Lib.hid (HE.out.trans (end_next hlt hb))
          rw [hb] at EN
          clear hb
          go_wp2_with (go_at_call 48; refine (EN.out _).mono ?_; rintro e w1 ⟨rfl, rfl⟩)
          go_round
          case rel => exact ⟨k + 1, by omega, by omega, rfl, HS.out⟩
          case measure => simp [intOf]; omega
      · obtain rfl : k = s.size := by omega
        by_cases hx : True
        · clear hx
          have HEA : Hid (endAt s p = s.size) := Lib.hid (HE.out.trans (end_here (.inl rfl)))
          have hpk1 : p < s.size := by
            have h1 := end_next hp HNE.out
            have h2 := (endAt_spec (s := s) s.size (p := p + 1) (by omega) (by omega)).1
            have h3 := HEA.out
            omega
          have BR : Hid (∀ W, Calls Tryd.prog 49 #[.string (s.extract p s.size)] W fun e w' => BareO W w' (bareF s p s.size) s.size e) := Lib.hid (fun W => bare_any s p s.size hpk1 hk hs W)
          have HOB : Hid (oneF s p = bareF s p s.size) := Lib.hid (by rw [HO.out, HEA.out])
          go_wp2_with fail
          refine (BR.out _).mono ?_
          rintro e w1 ⟨hb, (⟨kk, t, hr1, hk0', rfl⟩ | ⟨hr1, rfl⟩)⟩
          · have HB := Lib.hid hb
            have HB1 := Lib.hid (HBK.out _ hb)
            obtain ⟨⟨k0, k1, k2, k3, k4⟩, j0, j1, j2, j3, j4⟩ := Blk.all HB1.out
            have hk0 : ((kk : Int) == 0) = false := ne_i (k := 0) (by omega)
            have hlt2 := (HBV.out _ hb (.cells #[] 0)).2
            have HR1 := Lib.hid (HOB.out.trans hr1)
            clear hb hr1
            unfold tokV
            go_wp2
            refine bodyPost_ret (results_tok3 rfl rfl rfl rfl ((Below.heap_alloc _ _ _ (by simpa [World.setCell] using hlt2)).trans (heap_set5 HB1.out))) rfl ?_
            exact ⟨(below_set5 ((BE.out.alloc (Nat.le_refl _) _).trans (HB.out.mono (by simp))) (Nat.le_refl _)).alloc (by simp [World.setCell]; omega) _, .inl ⟨kk, t, false, s.size, HR1.out, rfl⟩⟩
          · have HB := Lib.hid hb
            have HB1 := Lib.hid (HBK.out _ hb)
            obtain ⟨⟨k0, k1, k2, k3, k4⟩, j0, j1, j2, j3, j4⟩ := Blk.all HB1.out
            have hlt2 := (HBV.out _ hb (.cells #[] 0)).2
            have HR1 := Lib.hid (HOB.out.trans hr1)
            clear hb hr1
            unfold noTok tokV
            go_wp2
            refine bodyPost_ret (results_tok3 rfl rfl rfl rfl ((Below.heap_alloc _ _ _ (by simpa [World.setCell] using hlt2)).trans (heap_set5 HB1.out))) rfl ?_
            exact ⟨(below_set5 ((BE.out.alloc (Nat.le_refl _) _).trans (HB.out.mono (by simp))) (Nat.le_refl _)).alloc (by simp [World.setCell]; omega) _, .inr ⟨62, HR1.out, by omega, rfl⟩⟩
        · exact absurd True.intro hx
  · rw [h5] at hbp
    clear h5 e1 e2 e3 e4 SB
    go_enter Tryd.func28, Tryd.ntmps28
    go_wp2_with (go_at_call 47; refine (SB.out _).mono ?_; rintro e w1 ⟨rfl, rfl⟩)
    go_loop [10] (fun i => EaR s p i) (fun i => s.size - (intOf i).toNat)
    case atStart => exact ⟨p, Nat.le_refl _, by omega, rfl, rfl⟩
    case round =>
      obtain ⟨k, hpk, hk, rfl, he⟩ := hrel
      have HE := Lib.hid he
      clear he
      by_cases hlt : k < s.size
      · have hbk := cb_at hlt
        have EN : Hid (∀ W, Calls Tryd.prog 48 #[.int .u8 ((cb s k : Nat) : Int)] W fun e w' => e = .returned (.bool (bEnd (cb s k))) ∧ W = w') := Lib.hid (fun W => ends6_any _ (cb_lt s k) W)
        rcases Bool.eq_false_or_eq_true (bEnd (cb s k)) with hb | hb
        · rw [hb] at EN
          have HEA : Hid (endAt s p = k) := Lib.hid (HE.out.trans (end_here (.inr hb)))
          have hpk1 : p < k := by
            have h1 := end_next hp HNE.out
            have h2 := (endAt_spec (s := s) s.size (p := p + 1) (by omega) (by omega)).1
            have h3 := HEA.out
            omega
          have BR : Hid (∀ W, Calls Tryd.prog 49 #[.string (s.extract p k)] W fun e w' => BareO W w' (bareF s p k) k e) := Lib.hid (fun W => bare_any s p k hpk1 hk hs W)
          have HOB : Hid (oneF s p = bareF s p k) := Lib.hid (by rw [HO.out, HEA.out])
          clear hb
          go_wp2_with (go_at_call 48; refine (EN.out _).mono ?_; rintro e w1 ⟨rfl, rfl⟩)
          refine (BR.out _).mono ?_
          rintro e w1 ⟨hb, (⟨kk, t, hr1, hk0', rfl⟩ | ⟨hr1, rfl⟩)⟩
          · have HB := Lib.hid hb
            have HB1 := Lib.hid (HBK.out _ hb)
            obtain ⟨⟨k0, k1, k2, k3, k4⟩, j0, j1, j2, j3, j4⟩ := Blk.all HB1.out
            have hk0 : ((kk : Int) == 0) = false := ne_i (k := 0) (by omega)
            have hlt2 := (HBV.out _ hb (.cells #[] 0)).2
            have HR1 := Lib.hid (HOB.out.trans hr1)
            clear hb hr1
            unfold tokV
            go_wp2
            refine bodyPost_ret (results_tok3 rfl rfl rfl rfl ((Below.heap_alloc _ _ _ (by simpa [World.setCell] using hlt2)).trans (heap_set5 HB1.out))) rfl ?_
            exact ⟨(below_set5 ((BE.out.alloc (Nat.le_refl _) _).trans (HB.out.mono (by simp))) (Nat.le_refl _)).alloc (by simp [World.setCell]; omega) _, .inl ⟨kk, t, false, k, HR1.out, rfl⟩⟩
          · have HB := Lib.hid hb
            have HB1 := Lib.hid (HBK.out _ hb)
            obtain ⟨⟨k0, k1, k2, k3, k4⟩, j0, j1, j2, j3, j4⟩ := Blk.all HB1.out
            have hlt2 := (HBV.out _ hb (.cells #[] 0)).2
            have HR1 := Lib.hid (HOB.out.trans hr1)
            clear hb hr1
            unfold noTok tokV
            go_wp2
            refine bodyPost_ret (results_tok3 rfl rfl rfl rfl ((Below.heap_alloc _ _ _ (by simpa [World.setCell] using hlt2)).trans (heap_set5 HB1.out))) rfl ?_
            exact ⟨(below_set5 ((BE.out.alloc (Nat.le_refl _) _).trans (HB.out.mono (by simp))) (Nat.le_refl _)).alloc (by simp [World.setCell]; omega) _, .inr ⟨62, HR1.out, by omega, rfl⟩⟩
        · have HS := Lib.hid (HE.out.trans (end_next hlt hb))
          rw [hb] at EN
          clear hb
          go_wp2_with (go_at_call 48; refine (EN.out _).mono ?_; rintro e w1 ⟨rfl, rfl⟩)
          go_round
          case rel => exact ⟨k + 1, by omega, by omega, rfl, HS.out⟩
          case measure => simp [intOf]; omega
      · obtain rfl : k = s.size := by omega
        by_cases hx : True
        · clear hx
          have HEA : Hid (endAt s p = s.size) := Lib.hid (HE.out.trans (end_here (.inl rfl)))
          have hpk1 : p < s.size := by
            have h1 := end_next hp HNE.out
            have h2 := (endAt_spec (s := s) s.size (p := p + 1) (by omega) (by omega)).1
            have h3 := HEA.out
            omega
          have BR : Hid (∀ W, Calls Tryd.prog 49 #[.string (s.extract p s.size)] W fun e w' => BareO W w' (bareF s p s.size) s.size e) := Lib.hid (fun W => bare_any s p s.size hpk1 hk hs W)
          have HOB : Hid (oneF s p = bareF s p s.size) := Lib.hid (by rw [HO.out, HEA.out])
          go_wp2_with fail
          refine (BR.out _).mono ?_
          rintro e w1 ⟨hb, (⟨kk, t, hr1, hk0', rfl⟩ | ⟨hr1, rfl⟩)⟩
          · have HB := Lib.hid hb
            have HB1 := Lib.hid (HBK.out _ hb)
            obtain ⟨⟨k0, k1, k2, k3, k4⟩, j0, j1, j2, j3, j4⟩ := Blk.all HB1.out
            have hk0 : ((kk : Int) == 0) = false := ne_i (k := 0) (by omega)
            have hlt2 := (HBV.out _ hb (.cells #[] 0)).2
            have HR1 := Lib.hid (HOB.out.trans hr1)
            clear hb hr1
            unfold tokV
            go_wp2
            refine bodyPost_ret (results_tok3 rfl rfl rfl rfl ((Below.heap_alloc _ _ _ (by simpa [World.setCell] using hlt2)).trans (heap_set5 HB1.out))) rfl ?_
            exact ⟨(below_set5 ((BE.out.alloc (Nat.le_refl _) _).trans (HB.out.mono (by simp))) (Nat.le_refl _)).alloc (by simp [World.setCell]; omega) _, .inl ⟨kk, t, false, s.size, HR1.out, rfl⟩⟩
          · have HB := Lib.hid hb
            have HB1 := Lib.hid (HBK.out _ hb)
            obtain ⟨⟨k0, k1, k2, k3, k4⟩, j0, j1, j2, j3, j4⟩ := Blk.all HB1.out
            have hlt2 := (HBV.out _ hb (.cells #[] 0)).2
            have HR1 := Lib.hid (HOB.out.trans hr1)
            clear hb hr1
            unfold noTok tokV
            go_wp2
            refine bodyPost_ret (results_tok3 rfl rfl rfl rfl ((Below.heap_alloc _ _ _ (by simpa [World.setCell] using hlt2)).trans (heap_set5 HB1.out))) rfl ?_
            exact ⟨(below_set5 ((BE.out.alloc (Nat.le_refl _) _).trans (HB.out.mono (by simp))) (Nat.le_refl _)).alloc (by simp [World.setCell]; omega) _, .inr ⟨62, HR1.out, by omega, rfl⟩⟩
        · exact absurd True.intro hx
  · have e5 : ((cb s p : Int) != 35) = true := by rw [bne_iff_ne]; omega
    have e6 : ((cb s p : Int) != 58) = true := by rw [bne_iff_ne]; omega
    replace SB := Lib.hid (SB.out h7)
    clear h5 h6 h7
    go_enter Tryd.func28, Tryd.ntmps28
    go_wp2_with (go_at_call 47; refine (SB.out _).mono ?_; rintro e w1 ⟨rfl, rfl⟩)
    go_loop [10] (fun i => EaR s p i) (fun i => s.size - (intOf i).toNat)
    case atStart => exact ⟨p, Nat.le_refl _, by omega, rfl, rfl⟩
    case round =>
      obtain ⟨k, hpk, hk, rfl, he⟩ := hrel
      have HE := Lib.hid he
      clear he
      by_cases hlt : k < s.size
      · have hbk := cb_at hlt
        have EN : Hid (∀ W, Calls Tryd.prog 48 #[.int .u8 ((cb s k : Nat) : Int)] W fun e w' => e = .returned (.bool (bEnd (cb s k))) ∧ W = w') := Lib.hid (fun W => ends6_any _ (cb_lt s k) W)
        rcases Bool.eq_false_or_eq_true (bEnd (cb s k)) with hb | hb
        · rw [hb] at EN
          have HEA : Hid (endAt s p = k) := Lib.hid (HE.out.trans (end_here (.inr hb)))
          have hpk1 : p < k := by
            have h1 := end_next hp HNE.out
            have h2 := (endAt_spec (s := s) s.size (p := p + 1) (by omega) (by omega)).1
            have h3 := HEA.out
            omega
          have BR : Hid (∀ W, Calls Tryd.prog 49 #[.string (s.extract p k)] W fun e w' => BareO W w' (bareF s p k) k e) := Lib.hid (fun W => bare_any s p k hpk1 hk hs W)
          have HOB : Hid (oneF s p = bareF s p k) := Lib.hid (by rw [HO.out, HEA.out])
          clear hb
          go_wp2_with (go_at_call 48; refine (EN.out _).mono ?_; rintro e w1 ⟨rfl, rfl⟩)
          refine (BR.out _).mono ?_
          rintro e w1 ⟨hb, (⟨kk, t, hr1, hk0', rfl⟩ | ⟨hr1, rfl⟩)⟩
          · have HB := Lib.hid hb
            have HB1 := Lib.hid (HBK.out _ hb)
            obtain ⟨⟨k0, k1, k2, k3, k4⟩, j0, j1, j2, j3, j4⟩ := Blk.all HB1.out
            have hk0 : ((kk : Int) == 0) = false := ne_i (k := 0) (by omega)
            have hlt2 := (HBV.out _ hb (.cells #[] 0)).2
            have HR1 := Lib.hid (HOB.out.trans hr1)
            clear hb hr1
            unfold tokV
            go_wp2
            refine bodyPost_ret (results_tok3 rfl rfl rfl rfl ((Below.heap_alloc _ _ _ (by simpa [World.setCell] using hlt2)).trans (heap_set5 HB1.out))) rfl ?_
            exact ⟨(below_set5 ((BE.out.alloc (Nat.le_refl _) _).trans (HB.out.mono (by simp))) (Nat.le_refl _)).alloc (by simp [World.setCell]; omega) _, .inl ⟨kk, t, false, k, HR1.out, rfl⟩⟩
          · have HB := Lib.hid hb
            have HB1 := Lib.hid (HBK.out _ hb)
            obtain ⟨⟨k0, k1, k2, k3, k4⟩, j0, j1, j2, j3, j4⟩ := Blk.all HB1.out
            have hlt2 := (HBV.out _ hb (.cells #[] 0)).2
            have HR1 := Lib.hid (HOB.out.trans hr1)
            clear hb hr1
            unfold noTok tokV
            go_wp2
            refine bodyPost_ret (results_tok3 rfl rfl rfl rfl ((Below.heap_alloc _ _ _ (by simpa [World.setCell] using hlt2)).trans (heap_set5 HB1.out))) rfl ?_
            exact ⟨(below_set5 ((BE.out.alloc (Nat.le_refl _) _).trans (HB.out.mono (by simp))) (Nat.le_refl _)).alloc (by simp [World.setCell]; omega) _, .inr ⟨62, HR1.out, by omega, rfl⟩⟩
        · have HS := Lib.hid (HE.out.trans (end_next hlt hb))
          rw [hb] at EN
          clear hb
          go_wp2_with (go_at_call 48; refine (EN.out _).mono ?_; rintro e w1 ⟨rfl, rfl⟩)
          go_round
          case rel => exact ⟨k + 1, by omega, by omega, rfl, HS.out⟩
          case measure => simp [intOf]; omega
      · obtain rfl : k = s.size := by omega
        by_cases hx : True
        · clear hx
          have HEA : Hid (endAt s p = s.size) := Lib.hid (HE.out.trans (end_here (.inl rfl)))
          have hpk1 : p < s.size := by
            have h1 := end_next hp HNE.out
            have h2 := (endAt_spec (s := s) s.size (p := p + 1) (by omega) (by omega)).1
            have h3 := HEA.out
            omega
          have BR : Hid (∀ W, Calls Tryd.prog 49 #[.string (s.extract p s.size)] W fun e w' => BareO W w' (bareF s p s.size) s.size e) := Lib.hid (fun W => bare_any s p s.size hpk1 hk hs W)
          have HOB : Hid (oneF s p = bareF s p s.size) := Lib.hid (by rw [HO.out, HEA.out])
          go_wp2_with fail
          refine (BR.out _).mono ?_
          rintro e w1 ⟨hb, (⟨kk, t, hr1, hk0', rfl⟩ | ⟨hr1, rfl⟩)⟩
          · have HB := Lib.hid hb
            have HB1 := Lib.hid (HBK.out _ hb)
            obtain ⟨⟨k0, k1, k2, k3, k4⟩, j0, j1, j2, j3, j4⟩ := Blk.all HB1.out
            have hk0 : ((kk : Int) == 0) = false := ne_i (k := 0) (by omega)
            have hlt2 := (HBV.out _ hb (.cells #[] 0)).2
            have HR1 := Lib.hid (HOB.out.trans hr1)
            clear hb hr1
            unfold tokV
            go_wp2
            refine bodyPost_ret (results_tok3 rfl rfl rfl rfl ((Below.heap_alloc _ _ _ (by simpa [World.setCell] using hlt2)).trans (heap_set5 HB1.out))) rfl ?_
            exact ⟨(below_set5 ((BE.out.alloc (Nat.le_refl _) _).trans (HB.out.mono (by simp))) (Nat.le_refl _)).alloc (by simp [World.setCell]; omega) _, .inl ⟨kk, t, false, s.size, HR1.out, rfl⟩⟩
          · have HB := Lib.hid hb
            have HB1 := Lib.hid (HBK.out _ hb)
            obtain ⟨⟨k0, k1, k2, k3, k4⟩, j0, j1, j2, j3, j4⟩ := Blk.all HB1.out
            have hlt2 := (HBV.out _ hb (.cells #[] 0)).2
            have HR1 := Lib.hid (HOB.out.trans hr1)
            clear hb hr1
            unfold noTok tokV
            go_wp2
            refine bodyPost_ret (results_tok3 rfl rfl rfl rfl ((Below.heap_alloc _ _ _ (by simpa [World.setCell] using hlt2)).trans (heap_set5 HB1.out))) rfl ?_
            exact ⟨(below_set5 ((BE.out.alloc (Nat.le_refl _) _).trans (HB.out.mono (by simp))) (Nat.le_refl _)).alloc (by simp [World.setCell]; omega) _, .inr ⟨62, HR1.out, by omega, rfl⟩⟩
        · exact absurd True.intro hx

theorem one_any6 (s : ByteArray) (p : Nat) (hp : p < s.size) (hs : s.size ≤ 1048576) (w : World) :
    Calls Tryd.prog 28 #[.string s, .int .i64 (p : Int)] w fun e w' => OneO w w' (oneF s p) e := by
  by_cases h1 : cb s p = 40
  · exact one_par6 s p hp hs w (.inl h1)
  by_cases h2 : cb s p = 41
  · exact one_par6 s p hp hs w (.inr h2)
  by_cases h3 : cb s p = 34
  · exact one_bar s p hp hs w 34 h3 (.inl rfl) _ rfl (fun W => by rw [one_qu h3]; exact between_qu s p hp hs h3 W)
  by_cases h4 : cb s p = 124
  · exact one_bar s p hp hs w 124 h4 (.inr rfl) _ rfl (fun W => by rw [one_ba h4]; exact between_ba s p hp hs h4 W)
  by_cases h5 : cb s p = 35
  · exact one_bare6 s p hp hs w ⟨h1, h2, h3, h4⟩ (.inl h5)
  by_cases h6 : cb s p = 58
  · exact one_bare6 s p hp hs w ⟨h1, h2, h3, h4⟩ (.inr (.inl h6))
  rcases Bool.eq_false_or_eq_true (bSimple (cb s p)) with h7 | h7
  · exact one_bare6 s p hp hs w ⟨h1, h2, h3, h4⟩ (.inr (.inr ⟨h5, h6, h7⟩))
  · exact one_none6 s p hp hs w ⟨h1, h2, h3, h4, h5, h6, h7⟩
end Go.Proofs.YtlgcmpiobglbbaaDoor
