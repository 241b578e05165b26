/- lexis: Scan. -/
import Derived.Test.YtlgcmpiobglbbaaDoorLY
import Derived.Test.YtlgcmpiobglbbaaDoorNI
set_option linter.unusedVariables false
set_option linter.unusedSimpArgs false
namespace Go.Proofs.YtlgcmpiobglbbaaDoor
open Go.RowKit Mth

def SgR (w wr : World) (B : Nat) (s : ByteArray) (v : Value) : Prop := ∃ (p : Nat) (L : List Tk), p ≤ s.size ∧ L.length ≤ p ∧ RdA wr (B + 1) s p ∧ FnB wr B ∧ LexW wr ∧ wr.ownsRow (B + 2) 33 5 v L.length (tksCells L) ∧
  scanF s 0 = (scanF s p).pre L ∧ Below w.heap.size w wr
theorem own_grown {w w' : World} {base size n g : Nat} {e : TypeId} {v : Value} {xs : List Value} (h : w.ownsRow base e size v n xs) (hg : w.grownBy w' (some g)) (hb : g < base) : w'.ownsRow base e size v n xs :=
  h.kept hg (by cases hv : v.ownBlock with
    | none => exact .inl rfl
    | some x => exact .inr (fun e => by have := (h.lt x hv).1; rw [hv] at *; have := Option.some.inj e; omega))
set_option maxHeartbeats 2000000 in
set_option maxRecDepth 100000 in
theorem scan_long (s : ByteArray) (h : 1048576 < s.size) (w : World) : Calls Tryd.prog 11 #[.string s] w fun e w' => e = .returned (.tuple #[.slice none 0 0, .int .i64 0, .int .i64 0, .int .i64 2]) ∧ w = w' := by
  go_enter Tryd.func11, Tryd.ntmps11
  go_wp2
  refine bodyPost_ret (results4 rfl rfl rfl rfl rfl) rfl ?_
  exact ⟨rfl, rfl⟩
set_option maxHeartbeats 4000000 in
set_option maxRecDepth 100000 in
theorem scan_any (s : ByteArray) (hs : s.size ≤ 1048576) (w : World) (hL : LexW w) : Calls Tryd.prog 11 #[.string s] w fun e w' => ScanO w w' (scanF s 0) e := by
  have HLW := Lib.hid hL
  have RE := Lib.hid (readers_any w)
  clear hL
  go_enter Tryd.func11, Tryd.ntmps11
  go_wp2_with fail
  refine RE.out.mono ?_
  rintro e w1 ⟨rfl, hb1⟩
  have HB1 := Lib.hid hb1
  clear hb1
  have FN0 : Hid (FnB ((w1.alloc (Obj.cells #[.func (.func 35) #[] #[], .func (.func 36) #[] #[], .func (.func 37) #[] #[], .func (.func 38) #[] #[], .func (.func 39) #[] #[], .func (.func 40) #[] #[], .func (.func 41) #[] #[], .func (.func 42) #[] #[]] 50)).alloc (Obj.cells #[.string s, .int .i64 0, .int .i64 1, .int .i64 0] 53)) w1.heap.size) := Lib.hid ((Below.heap_alloc _ _ _ (by simp)).trans (heap_alloc_new w1 (Obj.cells #[.func (.func 35) #[] #[], .func (.func 36) #[] #[], .func (.func 37) #[] #[], .func (.func 38) #[] #[], .func (.func 39) #[] #[], .func (.func 40) #[] #[], .func (.func 41) #[] #[], .func (.func 42) #[] #[]] 50)))
  have RD0 : Hid (RdA ((w1.alloc (Obj.cells #[.func (.func 35) #[] #[], .func (.func 36) #[] #[], .func (.func 37) #[] #[], .func (.func 38) #[] #[], .func (.func 39) #[] #[], .func (.func 40) #[] #[], .func (.func 41) #[] #[], .func (.func 42) #[] #[]] 50)).alloc (Obj.cells #[.string s, .int .i64 0, .int .i64 1, .int .i64 0] 53)) (w1.heap.size + 1) s 0) := Lib.hid (by
    have h := heap_alloc_new (w1.alloc (Obj.cells #[.func (.func 35) #[] #[], .func (.func 36) #[] #[], .func (.func 37) #[] #[], .func (.func 38) #[] #[], .func (.func 39) #[] #[], .func (.func 40) #[] #[], .func (.func 41) #[] #[], .func (.func 42) #[] #[]] 50)) (Obj.cells #[.string s, .int .i64 0, .int .i64 1, .int .i64 0] 53)
    have e : (w1.alloc (Obj.cells #[.func (.func 35) #[] #[], .func (.func 36) #[] #[], .func (.func 37) #[] #[], .func (.func 38) #[] #[], .func (.func 39) #[] #[], .func (.func 40) #[] #[], .func (.func 41) #[] #[], .func (.func 42) #[] #[]] 50)).heap.size = w1.heap.size + 1 := by simp
    rw [e] at h; exact h)
  have BE0 : Hid (Below w.heap.size w ((w1.alloc (Obj.cells #[.func (.func 35) #[] #[], .func (.func 36) #[] #[], .func (.func 37) #[] #[], .func (.func 38) #[] #[], .func (.func 39) #[] #[], .func (.func 40) #[] #[], .func (.func 41) #[] #[], .func (.func 42) #[] #[]] 50)).alloc (Obj.cells #[.string s, .int .i64 0, .int .i64 1, .int .i64 0] 53))) := Lib.hid ((HB1.out.alloc HB1.out.size _).alloc (by have := HB1.out.size; simp; omega) _)
  have LX0 : Hid (LexW ((w1.alloc (Obj.cells #[.func (.func 35) #[] #[], .func (.func 36) #[] #[], .func (.func 37) #[] #[], .func (.func 38) #[] #[], .func (.func 39) #[] #[], .func (.func 40) #[] #[], .func (.func 41) #[] #[], .func (.func 42) #[] #[]] 50)).alloc (Obj.cells #[.string s, .int .i64 0, .int .i64 1, .int .i64 0] 53))) := Lib.hid (HLW.out.below BE0.out)
  have hB := HB1.out.size
  go_wp2
  go_loopw [6] (fun v wr => SgR w wr w1.heap.size s v) (fun _ wr => s.size - atIn wr (w1.heap.size + 1))
  case atStart => exact ⟨0, [], Nat.zero_le _, Nat.le_refl _, RD0.out, FN0.out, LX0.out, World.ownsRow_nil _ _ _ _, (SR.pre_nil _).symm, BE0.out⟩
  case round =>
    obtain ⟨p, L, hp, hLp, hrd, hfn, hlx, hown, hsc, hbel⟩ := hrel
    have HRD := Lib.hid hrd; have HFN := Lib.hid hfn; have HLX := Lib.hid hlx; have HOWN := Lib.hid hown; have HSC := Lib.hid hsc; have HBL := Lib.hid hbel
    have HM : Hid (atIn wr (w1.heap.size + 1) = p) := Lib.hid (atIn_of hrd)
    have SK := Lib.hid (skip_any (w1.heap.size + 1) s p wr HRD.out hs hp)
    have HPQ := Lib.hid (skip_ge (s := s) s.size (p := p) (by omega))
    clear hrd hfn hlx hown hsc hbel FN0 RD0 BE0 LX0 RE
    go_wp2_with fail
    refine SK.out.mono ?_
    rintro e w2 ⟨hgr, (⟨rfl, hq, hbl, h59, hrd2⟩ | ⟨rfl, hq⟩)⟩
    · obtain ⟨q, hqe⟩ : ∃ q, skipF s p = q := ⟨_, rfl⟩
      rw [hqe] at hq hbl h59 hrd2 HPQ
      have HQE := Lib.hid hqe
      have HRD2 := Lib.hid hrd2
      have hgb : w1.heap.size + 1 < wr.heap.size := Rdr.lt HRD.out
      have HFN2 : Hid (FnB w2 w1.heap.size) := Lib.hid ((hgr.block _ (by omega) (fun e => by have := Option.some.inj e; omega)).trans HFN.out)
      have HLX2 : Hid (LexW w2) := Lib.hid (HLX.out.grown HRD.out hgr)
      have HOWN2 := Lib.hid (own_grown HOWN.out hgr (by omega))
      have HBL2 := Lib.hid (HBL.out.grown hgr HBL.out.size (fun kx hkx => by have := Option.some.inj hkx; omega))
      obtain ⟨d0, d1, d2, d3, g0, g1, g2, g3⟩ := rdaC hrd2
      have hbk := cb_at hq
      have hfs := fs_le s q
      have CO : Hid (∀ n, Calls Tryd.prog 26 #[.pointer (some ⟨w1.heap.size + 1, 0, none⟩)] (w2.drewN n) fun e w' => e = .returned (.int .i64 (colAt s q : Int)) ∧ ∃ m, w' = (w2.drewN n).drewN m) := Lib.hid (fun n => column_any (w1.heap.size + 1) s q _ _ _ (Rdr.drewN HRD2.out n) (by omega) hfs)
      obtain ⟨k, hke⟩ : ∃ k, stF (cb s q) = k := ⟨_, rfl⟩
      have hk8 := stF_lt (cb s q)
      have hmt := meth_of hs hq (w1.heap.size + 1)
      have hcf := FnB.at HFN2.out hk8
      have STO : Hid (∀ n, Calls Tryd.prog 27 #[.int .u8 ((cb s q : Nat) : Int)] (w2.drewN n) fun e w' => e = .returned (.int .i64 ((k : Nat) : Int)) ∧ w2.drewN n = w') := Lib.hid (fun n => by
        have h := startOf_any (cb s q) (cb_lt s q) (w2.drewN n) (HLX2.out.drewN n).tab
        rwa [hke] at h)
      rw [hke] at hk8 hmt hcf
      obtain ⟨m, hme⟩ : ∃ m, methN k = m := ⟨_, rfl⟩
      rw [hme] at hmt hcf
      unfold fnV at hcf
      obtain ⟨hen, hmc⟩ := hmt
      have MT := Lib.hid hmc
      have hk8' : (k : Int) < 8 := by omega
      clear hgr hrd2 hqe hbl h59 hmc hke hme
      go_wp2
      go_quiet ((go_at_call 26; exact Calls.quiet_of (CO.out _)))
      go_wp2_with (go_at_call 27; refine (STO.out _).mono ?_; rintro e w9 ⟨rfl, rfl⟩)
      refine Calls.mono (MT.out _ (Rdr.drewN HRD2.out _) (HLX2.out.drewN _)) ?_
      rintro e w3 (⟨kk, t, qd, n, ho, h1, h2, rfl, hadv⟩ | ⟨E, ho, hE, rfl, hgr3, a9, l9, f9, hr9⟩)
      · have HSN : Hid (scanF s 0 = (scanF s n).pre (L ++ [⟨kk, t, qd, lnAt s q, colAt s q⟩])) := Lib.hid (by
          rw [HSC.out, scan_tok (s := s) (p := p) (by rw [HQE.out]; exact hq) (by rw [HQE.out]; exact ho) (by rw [HQE.out]; exact h1), HQE.out, SR.pre_pre])
        have hg3 : w2.grownBy w3 (some (w1.heap.size + 1)) := grown_tr (grown_drewN (grown_refl _ _) _) hadv.1
        have hg2 : w1.heap.size + 1 < w2.heap.size := Rdr.lt HRD2.out
        have hg3s := hg3.size
        have HFN3 : Hid (FnB w3 w1.heap.size) := Lib.hid ((hg3.block _ (by omega) (fun e => by have := Option.some.inj e; omega)).trans HFN2.out)
        have HLX3 : Hid (LexW w3) := Lib.hid (HLX2.out.grown HRD2.out hg3)
        have HOWN3 := Lib.hid (own_grown HOWN2.out hg3 (by omega))
        have HBL3 := Lib.hid (HBL2.out.grown hg3 HBL2.out.size (fun kx hkx => by have := Option.some.inj hkx; omega))
        have HRD3 := Lib.hid hadv.2
        have HOW2 := Lib.hid ((HOWN3.out.alloc (Obj.cells #[.int .i64 (kk : Int), .string t, .bool qd, .int .i64 (lnAt s q : Int), .int .i64 (colAt s q : Int)] 33)).alloc (Obj.cells #[.int .i64 (kk : Int), .string t, .bool qd, .int .i64 (lnAt s q : Int), .int .i64 (colAt s q : Int)] 33))
        have HU : Hid (((w3.alloc (Obj.cells #[.int .i64 (kk : Int), .string t, .bool qd, .int .i64 (lnAt s q : Int), .int .i64 (colAt s q : Int)] 33)).alloc (Obj.cells #[.int .i64 (kk : Int), .string t, .bool qd, .int .i64 (lnAt s q : Int), .int .i64 (colAt s q : Int)] 33)).heap[w3.heap.size + 1]? = some (.cells #[.int .i64 (kk : Int), .string t, .bool qd, .int .i64 (lnAt s q : Int), .int .i64 (colAt s q : Int)] 33 (0, 0))) := Lib.hid (by have := heap_alloc_new (w3.alloc (Obj.cells #[.int .i64 (kk : Int), .string t, .bool qd, .int .i64 (lnAt s q : Int), .int .i64 (colAt s q : Int)] 33)) (Obj.cells #[.int .i64 (kk : Int), .string t, .bool qd, .int .i64 (lnAt s q : Int), .int .i64 (colAt s q : Int)] 33); simpa using this)
        have hz3 : ((w3.alloc (Obj.cells #[.int .i64 (kk : Int), .string t, .bool qd, .int .i64 (lnAt s q : Int), .int .i64 (colAt s q : Int)] 33)).alloc (Obj.cells #[.int .i64 (kk : Int), .string t, .bool qd, .int .i64 (lnAt s q : Int), .int .i64 (colAt s q : Int)] 33)).heap.size = w3.heap.size + 2 := by simp
        have HBA := Lib.hid ((HBL3.out.alloc HBL3.out.size (Obj.cells #[.int .i64 (kk : Int), .string t, .bool qd, .int .i64 (lnAt s q : Int), .int .i64 (colAt s q : Int)] 33)).alloc (by have := HBL3.out.size; simp; omega) (Obj.cells #[.int .i64 (kk : Int), .string t, .bool qd, .int .i64 (lnAt s q : Int), .int .i64 (colAt s q : Int)] 33))
        have HRA : Hid (RdA ((w3.alloc (Obj.cells #[.int .i64 (kk : Int), .string t, .bool qd, .int .i64 (lnAt s q : Int), .int .i64 (colAt s q : Int)] 33)).alloc (Obj.cells #[.int .i64 (kk : Int), .string t, .bool qd, .int .i64 (lnAt s q : Int), .int .i64 (colAt s q : Int)] 33)) (w1.heap.size + 1) s n) := Lib.hid (Rdr.alloc (Rdr.alloc HRD3.out _) _)
        have HLT := Lib.hid HOW2.out.lt
        have KP : Hid (∀ w4 row, ((w3.alloc (Obj.cells #[.int .i64 (kk : Int), .string t, .bool qd, .int .i64 (lnAt s q : Int), .int .i64 (colAt s q : Int)] 33)).alloc (Obj.cells #[.int .i64 (kk : Int), .string t, .bool qd, .int .i64 (lnAt s q : Int), .int .i64 (colAt s q : Int)] 33)).grownBy w4 row → (∀ kx, row = some kx → w1.heap.size + 2 ≤ kx) → RdA w4 (w1.heap.size + 1) s n ∧ FnB w4 w1.heap.size ∧ LexW w4 ∧ Below w.heap.size w w4) := Lib.hid (fun w4 row h4 h5 => by
          have hbk : ∀ i, i < w1.heap.size + 2 → i < w3.heap.size → w4.heap[i]? = w3.heap[i]? := fun i i1 i2 => (h4.block i (by omega) (fun e => by have := h5 i e.symm; omega)).trans ((Below.heap_alloc _ _ i (by simp; omega)).trans (Below.heap_alloc _ _ i i2))
          have hb4 : Below w.heap.size w w4 := HBA.out.grown h4 HBA.out.size (fun kx hkx => by have := h5 kx hkx; omega)
          exact ⟨(hbk _ (by omega) (by omega)).trans HRD3.out, (hbk _ (by omega) (by omega)).trans HFN3.out, HLW.out.below hb4, hb4⟩)
        have HO1 := Lib.hid h1; have HO2 := Lib.hid h2
        have hnq : L.length + 1 ≤ n := by have := HPQ.out; omega
        have HMn : Hid (∀ w4, RdA w4 (w1.heap.size + 1) s n → s.size - atIn w4 (w1.heap.size + 1) < s.size - atIn wr (w1.heap.size + 1)) := Lib.hid (fun w4 h4 => meas_lt HM.out h4 (by have := HPQ.out; omega) h2)
        clear hadv ho h1 h2 hg3 hg2 hg3s hz3 d0 d1 d2 d3 g0 g1 g2 g3 hcf
        unfold tokV
        go_wp2_with (at_builtin; refine append_tok rfl (.tmp 43) (.tmp 45) rfl (w1.heap.size + 2) _ L ⟨kk, t, qd, lnAt s q, colAt s q⟩ (w3.heap.size + 1) 1 rfl rfl HOW2.out HU.out (by omega) ?_ ?_)
        · have := (Rdr.lt HRD3.out); simp; omega
        · intro v' w4 hown2 hgr2
          have HO3 := Lib.hid hown2
          have HK4 := Lib.hid (KP.out _ _ hgr2 (fun kk hkk => (HLT.out kk hkk).1))
          clear hown2 hgr2
          go_wp2
          go_roundw
          case rel => exact ⟨n, L ++ [⟨kk, t, qd, lnAt s q, colAt s q⟩], HO2.out, by rw [List.length_append]; exact hnq, HK4.out.1, HK4.out.2.1, HK4.out.2.2.1, (by rw [List.length_append]; exact HO3.out), HSN.out, HK4.out.2.2.2⟩
          case measure => exact HMn.out _ HK4.out.1
      · have HX : Hid (scanF s 0 = .bad E (lnAt s q) (colAt s q)) := Lib.hid (by
          rw [HSC.out, scan_err (s := s) (p := p) (by rw [HQE.out]; exact hq) (by rw [HQE.out]; exact ho), HQE.out]; rfl)
        have HBL3 := Lib.hid (HBL2.out.grown (grown_tr (grown_drewN (grown_refl _ _) _) hgr3) HBL2.out.size (fun kx hkx => by have := Option.some.inj hkx; omega))
        have hE0 : ((E : Int) != 0) = true := by rw [bne_iff_ne]; omega
        have HE := Lib.hid hE
        clear ho hgr3 hr9 hE d0 d1 d2 d3 g0 g1 g2 g3 hcf
        unfold noTok tokV
        go_wp2
        refine bodyPost_ret (results4 rfl rfl rfl rfl rfl) rfl ?_
        exact ⟨HBL3.out.alloc HBL3.out.size _, .inr ⟨E, _, _, HX.out, HE.out, rfl⟩⟩
    · have HX : Hid (scanF s 0 = .ok L) := Lib.hid (by rw [HSC.out, scan_end hq]; simp [SR.pre])
      have hgb : w1.heap.size + 1 < wr.heap.size := Rdr.lt HRD.out
      have HOWN2 := Lib.hid (own_grown HOWN.out hgr (by omega))
      have HBL2 := Lib.hid (HBL.out.grown hgr HBL.out.size (fun kx hkx => by have := Option.some.inj hkx; omega))
      clear hgr hq
      go_wp2
      refine bodyPost_ret (results4 rfl rfl rfl rfl rfl) rfl ?_
      exact ⟨HBL2.out, .inl ⟨L, _, HX.out, rfl, TkL.own HOWN2.out, FarV.own HOWN2.out (by omega)⟩⟩
end Go.Proofs.YtlgcmpiobglbbaaDoor
