/- lexis: Write. -/
import Derived.Test.YtlgcmpiobglbbaaDoorKC
import Derived.Test.YtlgcmpiobglbbaaDoorKM
set_option linter.unusedVariables false
set_option linter.unusedSimpArgs false
namespace Go.Proofs.YtlgcmpiobglbbaaDoor
open Go.RowKit Mth

theorem below_drewN {B : Nat} {a w : World} (h : Below B a w) (n : Nat) : Below B a (w.drewN n) := ⟨h.os, h.tape, h.output, h.size, h.block⟩
/-- the answer of Write -/
def WriteO (w w' : World) (x : Tk) (e : Ending) : Prop :=
  Below w.heap.size w w' ∧ ((Good x ∧ e = .returned (.tuple #[.string (wrB x), .int .i64 0])) ∨ (¬ Good x ∧ e = .returned (.tuple #[.string ⟨#[]⟩, .int .i64 73])))
theorem tok_neq {x y : Tk} (h : ¬ (x.k = y.k ∧ x.t = y.t ∧ x.q = y.q)) (hl : x.l = y.l) (hc : x.c = y.c) : x ≠ y := fun e => h (by subst e; exact ⟨rfl, rfl, rfl⟩)
set_option maxHeartbeats 2000000 in
set_option maxRecDepth 100000 in
theorem write_any (x : Tk) (ht : x.t.size ≤ 1048576) (w : World) (hL : LexW w) : Calls Tryd.prog 15 #[tkV x] w fun e w' => WriteO w w' x e := by
  have O := Lib.hid (heap_alloc_new w (Obj.cells #[.int .i64 x.k, .string x.t, .bool x.q, .int .i64 x.l, .int .i64 x.c] 33))
  have BA : Hid (Below w.heap.size w (w.alloc (Obj.cells #[.int .i64 x.k, .string x.t, .bool x.q, .int .i64 x.l, .int .i64 x.c] 33))) := Lib.hid ((Below.refl _ _).alloc (Nat.le_refl _) _)
  have HLA := Lib.hid (hL.below BA.out)
  have WR := Lib.hid (written_any x (by omega) _ HLA.out)
  have hws : (wrB x).size ≤ 2097154 := by
    rw [wr_size]
    have hd := dbl_len x.t.data.toList
    have hld := len_data x.t
    unfold wrL
    (repeat' split) <;> (try simp only [List.length_cons, List.length_append, List.length_nil]) <;> (first | omega | (show 0 ≤ _; omega))
  clear hL
  unfold tkV at WR ⊢
  go_enter Tryd.func15, Tryd.ntmps15
  go_wp2_with (go_at_call 29; refine WR.out.mono ?_; rintro e w1 ⟨rfl, hb⟩)
  have HB := Lib.hid hb
  have HL1 := Lib.hid (HLA.out.below (hb.mono (by simp)))
  have hbk : w1.heap[w.heap.size]? = _ := (hb.block _ (by simp)).trans O.out
  have HK := Lib.hid hbk
  have HBW : Hid (Below w.heap.size w w1) := Lib.hid (BA.out.trans (HB.out.mono (by simp)))
  clear hb hbk
  by_cases hs : (wrB x).size ≤ 1048576
  · have SC := Lib.hid (scan_any (wrB x) hs w1 HL1.out)
    go_wp2_with fail
    refine SC.out.mono ?_
    rintro e w2 ⟨hb2, (⟨L, v, hLs, rfl, htk, hfar⟩ | ⟨E, x0, y0, hbad, hE, rfl⟩)⟩
    · have BX : Hid (Below w.heap.size w w2) := Lib.hid (HBW.out.trans (hb2.mono HBW.out.size))
      have hbk2 : w2.heap[w.heap.size]? = _ := (hb2.block _ (Array.getElem?_eq_some_iff.1 HK.out).1).trans HK.out
      obtain ⟨c0, c1, c2, c3, c4⟩ := blk5 hbk2
      obtain ⟨f0, f1, f2, f3, f4⟩ := frz5 hbk2
      obtain ⟨ao, cap, rfl, hcs⟩ := htk
      have HCS := Lib.hid hcs
      have hlt1 : w.heap.size < w1.heap.size := (Array.getElem?_eq_some_iff.1 HK.out).1
      have HFAR : Hid (∀ b off, ao = some ⟨b, off, none⟩ → w.heap.size < b) := Lib.hid (fun b off e => by subst e; have := hfar _ _ _ rfl; exact Nat.lt_of_lt_of_le hlt1 this)
      clear hcs hbk2 hfar
      by_cases hg : Good x
      · have hLg : L = [⟨x.k, x.t, x.q, 1, 1⟩] := by
          have := scan_of_good hg
          rw [hLs] at this
          injection this
        have HG := Lib.hid hg
        subst hLg
        obtain ⟨b, off, rfl, hlt, hc⟩ := HCS.out (by simp)
        obtain ⟨a0, a1, a2, a3, a4⟩ := TkL.at hc (i := 0) rfl
        rw [Nat.zero_mul, Nat.add_zero] at a0 a1 a2 a3 a4
        have hbw : w.heap.size < b := HFAR.out b off rfl
        clear hc hLs hb2 hg
        go_wp2
        go_quiet (fail)
        go_wp2
        go_ret2
        exact ⟨below_drewN ((BX.out.setCell (p := ⟨w.heap.size, 3, none⟩) (Nat.le_refl _) _).setCell (p := ⟨w.heap.size, 4, none⟩) (Nat.le_refl _) _) _, .inl ⟨HG.out, rfl⟩⟩
      · have HN := Lib.hid hg
        by_cases h1 : L.length = 1
        · obtain ⟨y, rfl⟩ : ∃ y, L = [y] := by
            cases L with
            | nil => simp at h1
            | cons y L => cases L with
              | nil => exact ⟨y, rfl⟩
              | cons z L => simp at h1
          have hne : ¬ (y.k = x.k ∧ y.t = x.t ∧ y.q = x.q) := fun ⟨a, b, c⟩ => hg (good_of_scan hs hLs a b c)
          have HNE := Lib.hid hne
          obtain ⟨b, off, rfl, hlt, hc⟩ := HCS.out (by simp)
          obtain ⟨a0, a1, a2, a3, a4⟩ := TkL.at hc (i := 0) rfl
          rw [Nat.zero_mul, Nat.add_zero] at a0 a1 a2 a3 a4
          have hbw : w.heap.size < b := HFAR.out b off rfl
          clear hc hLs hb2 hg hne h1
          obtain ⟨xk, xt, xq, xl, xc⟩ := x
          obtain ⟨yk, yt, yq, yl, yc⟩ := y
          by_cases n1 : yk = xk
          · by_cases n2 : yq = xq
            · have n3 : ¬ yt.toList = xt.toList := fun e => HNE.out ⟨n1, by
                rw [ByteArray.toList_eq, ByteArray.toList_eq] at e
                cases yt; cases xt; exact congrArg ByteArray.mk (Array.toList_inj.1 e), n2⟩
              have e3 : (yt.toList == xt.toList) = false := beq_eq_false_iff_ne.2 n3
              subst n1 n2
              clear n3
              go_wp2
              go_quiet (fail)
              go_wp2
              go_ret2
              exact ⟨below_drewN ((BX.out.setCell (p := ⟨w.heap.size, 3, none⟩) (Nat.le_refl _) _).setCell (p := ⟨w.heap.size, 4, none⟩) (Nat.le_refl _) _) _, .inr ⟨HN.out, rfl⟩⟩
            · have e2 : (yq == xq) = false := beq_eq_false_iff_ne.2 n2
              subst n1
              clear n2
              go_wp2
              go_quiet (fail)
              go_wp2
              go_ret2
              exact ⟨below_drewN ((BX.out.setCell (p := ⟨w.heap.size, 3, none⟩) (Nat.le_refl _) _).setCell (p := ⟨w.heap.size, 4, none⟩) (Nat.le_refl _) _) _, .inr ⟨HN.out, rfl⟩⟩
          · have e1 : (yk == xk) = false := beq_eq_false_iff_ne.2 n1
            clear n1
            go_wp2
            go_quiet (fail)
            go_wp2
            go_ret2
            exact ⟨below_drewN ((BX.out.setCell (p := ⟨w.heap.size, 3, none⟩) (Nat.le_refl _) _).setCell (p := ⟨w.heap.size, 4, none⟩) (Nat.le_refl _) _) _, .inr ⟨HN.out, rfl⟩⟩
        · have e1 : ((L.length : Int) != 1) = true := by rw [bne_iff_ne]; omega
          clear hg hLs hb2 h1
          go_wp2
          go_quiet (fail)
          go_wp2
          go_ret2
          exact ⟨below_drewN ((BX.out.setCell (p := ⟨w.heap.size, 3, none⟩) (Nat.le_refl _) _).setCell (p := ⟨w.heap.size, 4, none⟩) (Nat.le_refl _) _) _, .inr ⟨HN.out, rfl⟩⟩
    · have HN : Hid (¬ Good x) := Lib.hid (fun h => by have := scan_of_good h; rw [hbad] at this; cases this)
      have BX : Hid (Below w.heap.size w w2) := Lib.hid (HBW.out.trans (hb2.mono HBW.out.size))
      have hbk2 : w2.heap[w.heap.size]? = _ := (hb2.block _ (Array.getElem?_eq_some_iff.1 HK.out).1).trans HK.out
      obtain ⟨c0, c1, c2, c3, c4⟩ := blk5 hbk2
      obtain ⟨f0, f1, f2, f3, f4⟩ := frz5 hbk2
      have hE0 : ((E : Int) != 0) = true := by rw [bne_iff_ne]; omega
      clear hb2 hbad hE hbk2
      go_wp2
      go_quiet (fail)
      go_wp2
      go_ret2
      exact ⟨below_drewN ((BX.out.setCell (p := ⟨w.heap.size, 3, none⟩) (Nat.le_refl _) _).setCell (p := ⟨w.heap.size, 4, none⟩) (Nat.le_refl _) _) _, .inr ⟨HN.out, rfl⟩⟩
  · have SC := Lib.hid (scan_long (wrB x) (by omega) w1)
    have HN : Hid (¬ Good x) := Lib.hid (fun ⟨_, _, _, h, _⟩ => hs h)
    obtain ⟨c0, c1, c2, c3, c4⟩ := blk5 HK.out
    obtain ⟨f0, f1, f2, f3, f4⟩ := frz5 HK.out
    clear hs
    go_wp2_with (go_at_call 11; refine SC.out.mono ?_; rintro e w2 ⟨rfl, rfl⟩)
    go_quiet (fail)
    go_wp2
    go_ret2
    exact ⟨below_drewN ((HBW.out.setCell (p := ⟨w.heap.size, 3, none⟩) (Nat.le_refl _) _).setCell (p := ⟨w.heap.size, 4, none⟩) (Nat.le_refl _) _) _, .inr ⟨HN.out, rfl⟩⟩
end Go.Proofs.YtlgcmpiobglbbaaDoor
