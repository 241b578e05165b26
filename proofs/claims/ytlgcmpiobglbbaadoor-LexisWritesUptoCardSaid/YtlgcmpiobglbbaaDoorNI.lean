/- lexis's reference: Scan. -/
import Derived.Test.YtlgcmpiobglbbaaDoorNG
import Derived.Test.YtlgcmpiobglbbaaDoorNH
set_option linter.unusedVariables false
set_option linter.unusedSimpArgs false
namespace Go.Proofs.YtlgcmpiobglbbaaDoor
open Go.RowKit Mth

/-- memory from a block on -/
def FarV (B : Nat) (v : Value) : Prop := ∀ ad n c, v = .slice (some ad) n c → B ≤ ad.block
theorem FarV.own {w : World} {base B size n : Nat} {e : TypeId} {v : Value} {xs : List Value} (h : w.ownsRow base e size v n xs) (hB : B ≤ base) : FarV B v := fun ad m c hv => by
  have hl := h.lt
  obtain ⟨_, h1⟩ := h
  rcases h1 with ⟨rfl, _⟩ | ⟨g, cap, cur, rfl, _⟩
  · cases hv
  · injection hv with a1 a2 a3
    have a4 := Option.some.inj a1
    subst a4
    exact Nat.le_trans hB (hl g rfl).1
/-- the answer of Scan -/
def ScanO (w w' : World) (r : SR) (e : Ending) : Prop :=
  Below w.heap.size w w' ∧ ((∃ L v, r = .ok L ∧ e = .returned (.tuple #[v, .int .i64 0, .int .i64 0, .int .i64 0]) ∧ TkL w' v L ∧ FarV w.heap.size v) ∨
    (∃ E x y : Nat, r = .bad E x y ∧ E ≠ 0 ∧ e = .returned (.tuple #[.slice none 0 0, .int .i64 (x : Int), .int .i64 (y : Int), .int .i64 (E : Int)])))
theorem SR.pre_ok {L M : List Tk} : (SR.ok M).pre L = .ok (L ++ M) := rfl
theorem SR.pre_bad {L : List Tk} {e x y : Nat} : (SR.bad e x y).pre L = .bad e x y := rfl
set_option maxRecDepth 100000 in
theorem results4 {fn : Func} {t u x y : Tmp} {tmps : Array Value} {v0 v1 v2 v3 : Value} {W : World} (h : fn.results = #[.tmp t, .tmp u, .tmp x, .tmp y])
    (h1 : tmps.getD t undef = v0) (h2 : tmps.getD u undef = v1) (h3 : tmps.getD x undef = v2) (h4 : tmps.getD y undef = v3) : (results fn tmps).run Tryd.prog W = .ok (.tuple #[v0, v1, v2, v3]) W := by
  rw [Array.getD_eq_getD_getElem?] at h1 h2 h3 h4
  simp [results, h, h1, h2, h3, h4, go_sem]
/-- where the reference's Scan is -/
def ScR (w wr : World) (s : ByteArray) (v ln cl fr at_ : Value) : Prop := ∃ (p f : Nat) (L : List Tk), f ≤ p ∧ p ≤ s.size ∧ L.length ≤ p ∧ at_ = .int .i64 (p : Int) ∧ fr = .int .i64 (f : Int) ∧ ln = .int .i64 (lnAt s f : Int) ∧ cl = .int .i64 (colAt s f : Int) ∧
  wr.ownsRow w.heap.size 33 5 v L.length (tksCells L) ∧ scanF s 0 = (scanF s p).pre L ∧ Below w.heap.size w wr
theorem col_le (s : ByteArray) (p : Nat) : colAt s p ≤ p + 1 := by unfold colAt; omega
theorem col_nl {s : ByteArray} {p : Nat} (h : cb s p = 10) : colAt s (p + 1) = 1 := by unfold colAt; rw [(ln_nl h).2]; omega
theorem col_same {s : ByteArray} {p : Nat} (h : cb s p ≠ 10) : colAt s (p + 1) = colAt s p + 1 := by
  have := fs_le s p
  unfold colAt; rw [(ln_same h).2]; omega
def ck (s : ByteArray) (p : Nat) (i : Value) : Prop := ∃ k : Nat, p ≤ k ∧ k ≤ s.size ∧ i = .int .i64 (k : Int) ∧ cmtF s p = cmtF s k
theorem cmt_next {s : ByteArray} {k : Nat} (h : k < s.size) (hn : cb s k ≠ 10) : cmtF s k = cmtF s (k + 1) := by rw [cmtF, if_pos h, if_neg hn]
theorem cmt_here {s : ByteArray} {k : Nat} (h : k = s.size ∨ cb s k = 10) : cmtF s k = k := by
  rw [cmtF]
  split
  · rcases h with h | h
    · omega
    · rw [if_pos h]
  · rfl
def PlR (s : ByteArray) (p f0 : Nat) (ln cl fr : Value) : Prop := ∃ f : Nat, f0 ≤ f ∧ f ≤ p ∧ fr = .int .i64 (f : Int) ∧ ln = .int .i64 (lnAt s f : Int) ∧ cl = .int .i64 (colAt s f : Int)
theorem own_below {w w' : World} {base size n : Nat} {e : TypeId} {v : Value} {xs : List Value} (h : w.ownsRow base e size v n xs) (hb : Below w.heap.size w w') : w'.ownsRow base e size v n xs :=
  h.kept (row := none) ⟨hb.os, hb.tape, hb.output, hb.size, fun k hk _ => hb.block k hk⟩ (by cases hv : v.ownBlock with
    | none => exact .inl rfl
    | some x => exact .inr (by simp))
set_option maxHeartbeats 2000000 in
set_option maxRecDepth 100000 in
theorem rscan_long (s : ByteArray) (h : 1048576 < s.size) (w : World) : Calls Tryd.prog 12 #[.string s] w fun e w' => e = .returned (.tuple #[.slice none 0 0, .int .i64 0, .int .i64 0, .int .i64 2]) ∧ w = w' := by
  go_enter Tryd.func12, Tryd.ntmps12
  go_wp2
  refine bodyPost_ret (results4 rfl rfl rfl rfl rfl) rfl ?_
  exact ⟨rfl, rfl⟩
set_option maxHeartbeats 4000000 in
set_option maxRecDepth 100000 in
theorem rscan_any (s : ByteArray) (hs : s.size ≤ 1048576) (w : World) : Calls Tryd.prog 12 #[.string s] w fun e w' => ScanO w w' (scanF s 0) e := by
  go_enter Tryd.func12, Tryd.ntmps12
  go_wp2
  go_loopw [6, 7, 8, 9, 10] (fun v ln cl fr at_ wr => ScR w wr s v ln cl fr at_) (fun _ _ _ _ i _ => s.size - (intOf i).toNat)
  case atStart => exact ⟨0, 0, [], by omega, by omega, by simp, rfl, rfl, rfl, rfl, World.ownsRow_nil _ _ _ _, (SR.pre_nil _).symm, Below.refl _ _⟩
  case round =>
    obtain ⟨p, f, L, hfp, hp, hL, rfl, rfl, rfl, rfl, hown, hsc, hbel⟩ := hrel
    have HOWN := Lib.hid hown; have HSC := Lib.hid hsc; have HB := Lib.hid hbel
    have hln := ln_le s f; have hcl := col_le s f
    clear hown hsc hbel
    by_cases hlt : p < s.size
    · have hbk := cb_at hlt
      have BL : Hid (∀ W, Calls Tryd.prog 23 #[.int .u8 ((cb s p : Nat) : Int)] W fun e w' => e = .returned (.bool (bBlank (cb s p))) ∧ W = w') := Lib.hid (fun W => blank6_any _ (cb_lt s p) W)
      rcases Bool.eq_false_or_eq_true (bBlank (cb s p)) with hb | hb
      · have HS := Lib.hid (HSC.out.trans (by rw [scan_congr (skip_blank hlt hb)]))
        rw [hb] at BL
        clear hb
        go_wp2_with (go_at_call 23; refine (BL.out _).mono ?_; rintro e w1 ⟨rfl, rfl⟩)
        go_roundw
        case rel => exact ⟨p + 1, f, L, by omega, by omega, by omega, by go_num, rfl, rfl, rfl, HOWN.out, HS.out, HB.out⟩
        case measure => simp [intOf]; omega
      · by_cases h59 : cb s p = 59
        · have HS := Lib.hid (HSC.out.trans (by rw [scan_congr (skip_cmt hlt h59)]))
          have HC0 : Hid (cmtF s p = cmtF s (p + 1)) := Lib.hid (cmt_next hlt (by rw [h59]; decide))
          have H59 := Lib.hid h59
          rw [hb, h59] at BL
          rw [h59] at hbk
          clear hb h59
          go_wp2_with (go_at_call 23; refine (BL.out _).mono ?_; rintro e w1 ⟨rfl, rfl⟩)
          go_loop [10] (fun i => ck s p i) (fun i => s.size - (intOf i).toNat)
          case atStart => exact ⟨p, Nat.le_refl _, by omega, rfl, rfl⟩
          case round =>
            obtain ⟨k, hpk, hk, rfl, hc⟩ := hrel
            have HC := Lib.hid hc
            clear hc
            by_cases hkl : k < s.size
            · have hbk1 := cb_at hkl
              by_cases h10 : cb s k = 10
              · have HK : Hid (cmtF s (p + 1) = k) := Lib.hid (by rw [← HC0.out, HC.out, cmt_here (.inr h10)])
                have hpk1 : p < k := by
                  rcases Nat.lt_or_ge p k with h | h
                  · exact h
                  · obtain rfl : p = k := by omega
                    have := H59.out; omega
                rw [h10] at hbk1
                clear h10
                go_wp2
                go_roundw
                case rel => exact ⟨k, f, L, by omega, by omega, by omega, rfl, rfl, rfl, rfl, HOWN.out, by rw [← HK.out]; exact HS.out, HB.out⟩
                case measure => simp [intOf]; omega
              · have HS2 := Lib.hid (HC.out.trans (cmt_next hkl h10))
                have e1 : ((cb s k : Int) != 10) = true := by rw [bne_iff_ne]; omega
                clear h10
                go_wp2
                go_round
                case rel => exact ⟨k + 1, by omega, by omega, by go_num, HS2.out⟩
                case measure => simp [intOf]; omega
            · obtain rfl : k = s.size := by omega
              have HK : Hid (cmtF s (p + 1) = s.size) := Lib.hid (by rw [← HC0.out, HC.out, cmt_here (.inl rfl)])
              go_wp2
              go_roundw
              case rel => exact ⟨s.size, f, L, by omega, by omega, by omega, rfl, rfl, rfl, rfl, HOWN.out, by rw [← HK.out]; exact HS.out, HB.out⟩
              case measure => simp [intOf]; omega
        · have HK := Lib.hid (skip_here hb h59)
          have e59 : ((cb s p : Int) == 59) = false := ne_i (k := 59) h59
          rw [hb] at BL
          clear hb h59
          go_wp2_with (go_at_call 23; refine (BL.out _).mono ?_; rintro e w1 ⟨rfl, rfl⟩)
          go_loop [7, 8, 9] (fun ln cl fr => PlR s p f ln cl fr) (fun _ _ i => p - (intOf i).toNat)
          case atStart => exact ⟨f, Nat.le_refl _, hfp, rfl, rfl, rfl⟩
          case round =>
            obtain ⟨h, hfh, hhp, rfl, rfl, rfl⟩ := hrel
            have hlh := ln_le s h; have hch := col_le s h
            by_cases hhl : h < p
            · have hbh := cb_at (s := s) (i := h) (by omega)
              by_cases h10 : cb s h = 10
              · have HL1 := Lib.hid (ln_nl h10).1
                have HC1 := Lib.hid (col_nl h10)
                rw [h10] at hbh
                clear h10
                go_wp2
                go_round
                case rel => exact ⟨h + 1, by omega, by omega, by go_num, by rw [HL1.out]; go_num, by rw [HC1.out]; rfl⟩
                case measure => simp [intOf]; omega
              · have HL1 := Lib.hid (ln_same h10).1
                have HC1 := Lib.hid (col_same h10)
                have e1 : ((cb s h : Int) == 10) = false := ne_i (k := 10) h10
                clear h10
                go_wp2
                go_round
                case rel => exact ⟨h + 1, by omega, by omega, by go_num, by rw [HL1.out], by rw [HC1.out]; go_num⟩
                case measure => simp [intOf]; omega
            · obtain rfl : h = p := by omega
              have ON : Hid (∀ W, Calls Tryd.prog 28 #[.string s, .int .i64 (h : Int)] W fun e w' => OneO W w' (oneF s h) e) := Lib.hid (fun W => one_any6 s h hlt hs W)
              go_wp2_with fail
              refine (ON.out _).mono ?_
              rintro e w1 ⟨hb1, (⟨k, t, q, n, hr1, rfl⟩ | ⟨E, hr1, hE, rfl⟩)⟩
              · have hlt1 := shape_lt hlt (shape_of hlt hr1)
                have HSN : Hid (scanF s 0 = (scanF s n).pre (L ++ [⟨k, t, q, lnAt s h, colAt s h⟩])) := Lib.hid (by
                  rw [HSC.out, scan_tok (s := s) (p := h) (by rw [HK.out]; exact hlt) (by rw [HK.out]; exact hr1) (by rw [HK.out]; exact hlt1.1), HK.out, SR.pre_pre])
                have HB1 := Lib.hid hb1
                obtain ⟨hn1, hn2⟩ := hlt1
                clear hb1 hr1
                have HOW2 := Lib.hid (((own_below HOWN.out HB1.out).alloc (Obj.cells #[.int .i64 (k : Int), .string t, .bool q, .int .i64 (lnAt s h : Int), .int .i64 (colAt s h : Int)] 33)).alloc (Obj.cells #[.int .i64 (k : Int), .string t, .bool q, .int .i64 (lnAt s h : Int), .int .i64 (colAt s h : Int)] 33))
                have HU : Hid (((w1.alloc (Obj.cells #[.int .i64 (k : Int), .string t, .bool q, .int .i64 (lnAt s h : Int), .int .i64 (colAt s h : Int)] 33)).alloc (Obj.cells #[.int .i64 (k : Int), .string t, .bool q, .int .i64 (lnAt s h : Int), .int .i64 (colAt s h : Int)] 33)).heap[w1.heap.size + 1]? = some (.cells #[.int .i64 (k : Int), .string t, .bool q, .int .i64 (lnAt s h : Int), .int .i64 (colAt s h : Int)] 33 (0, 0))) := Lib.hid (by have := heap_alloc_new (w1.alloc (Obj.cells #[.int .i64 (k : Int), .string t, .bool q, .int .i64 (lnAt s h : Int), .int .i64 (colAt s h : Int)] 33)) (Obj.cells #[.int .i64 (k : Int), .string t, .bool q, .int .i64 (lnAt s h : Int), .int .i64 (colAt s h : Int)] 33); simpa using this)
                have HBA := Lib.hid (((HB.out.trans (HB1.out.mono HB.out.size)).alloc (Nat.le_trans HB.out.size HB1.out.size) (Obj.cells #[.int .i64 (k : Int), .string t, .bool q, .int .i64 (lnAt s h : Int), .int .i64 (colAt s h : Int)] 33)).alloc (by have := Nat.le_trans HB.out.size HB1.out.size; simp; omega) (Obj.cells #[.int .i64 (k : Int), .string t, .bool q, .int .i64 (lnAt s h : Int), .int .i64 (colAt s h : Int)] 33))
                have HLT := Lib.hid HOW2.out.lt
                unfold tokV
                go_wp2_with (at_builtin; refine append_tok rfl (.tmp 72) (.tmp 74) rfl w.heap.size _ L ⟨k, t, q, lnAt s h, colAt s h⟩ (w1.heap.size + 1) 1 rfl rfl HOW2.out HU.out (by omega) HBA.out.size ?_; intro v' w2 hown2 hgr2; have HO3 := Lib.hid hown2; have HG3 := Lib.hid (HBA.out.grown hgr2 HBA.out.size (fun kk hkk => (HLT.out kk hkk).1)); clear hown2 hgr2)
                go_roundw
                case rel => exact ⟨n, h, L ++ [⟨k, t, q, lnAt s h, colAt s h⟩], by omega, by omega, by rw [List.length_append]; show L.length + 1 ≤ n; omega, rfl, rfl, rfl, rfl, HO3.out, HSN.out, HG3.out⟩
                case measure => simp [intOf]; omega
              · have HX : Hid (scanF s 0 = .bad E (lnAt s h) (colAt s h)) := Lib.hid (by
                  rw [HSC.out, scan_err (s := s) (p := h) (by rw [HK.out]; exact hlt) (by rw [HK.out]; exact hr1), HK.out]; rfl)
                have HB1 := Lib.hid hb1
                have hE0 : ((E : Int) != 0) = true := by rw [bne_iff_ne]; omega
                have HE := Lib.hid hE
                clear hb1 hr1 hE
                unfold noTok tokV
                go_wp2
                refine bodyPost_ret (results4 rfl rfl rfl rfl rfl) rfl ?_
                exact ⟨(HB.out.trans (HB1.out.mono HB.out.size)).alloc (Nat.le_trans HB.out.size HB1.out.size) _, .inr ⟨E, _, _, HX.out, HE.out, rfl⟩⟩
    · obtain rfl : p = s.size := by omega
      have HX : Hid (scanF s 0 = .ok L) := Lib.hid (by rw [HSC.out, scan_end (by rw [skip_end (Nat.le_refl _)]; exact Nat.le_refl _)]; simp [SR.pre])
      go_wp2
      refine bodyPost_ret (results4 rfl rfl rfl rfl rfl) rfl ?_
      exact ⟨HB.out, .inl ⟨L, _, HX.out, rfl, TkL.own HOWN.out, FarV.own HOWN.out (Nat.le_refl _)⟩⟩
end Go.Proofs.YtlgcmpiobglbbaaDoor
