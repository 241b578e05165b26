/- NJ NK. -/
import Derived.Test.YtpkdiciinhjfjaaGreatDoorKG1
set_option linter.unusedVariables false
set_option linter.unusedSimpArgs false
/- lexis's reference: String. -/
namespace Go.Proofs.YtpkdiciinhjfjaaGreatDoor
open Go.RowKit Mth

/-- the answer of String -/
def StrO (w' w : World) (t : ByteArray) (e : Ending) : Prop :=
  w = w' ∧ ((allIn t.data.toList ∧ e = .returned (.tuple #[.string (qtB t), .int .i64 0])) ∨ (¬ allIn t.data.toList ∧ e = .returned (.tuple #[.string ⟨#[]⟩, .int .i64 60])))
theorem take_next {l : List UInt8} {k : Nat} (h : k < l.length) : l.take (k + 1) = l.take k ++ [l[k]] := by
  rw [List.take_add_one, List.getElem?_eq_getElem h, Option.toList_some]
def RsR (t : ByteArray) (o i : Value) : Prop := ∃ (k : Nat) (D : ByteArray), k ≤ t.size ∧ i = .int .i64 (k : Int) ∧ o = .string D ∧ D = ⟨(34 :: dbl (t.data.toList.take k)).toArray⟩ ∧ D.size ≤ 2 * k + 1 ∧ allIn (t.data.toList.take k)
theorem byte_at {t : ByteArray} {k : Nat} (h : k < t.size) : ∃ c : UInt8, t.data.toList[k]? = some c ∧ cb t k = c.toNat ∧ t.extract k (k + 1) = ⟨#[c]⟩ := by
  have hl : k < t.data.toList.length := by rw [len_data]; exact h
  refine ⟨t.data.toList[k], List.getElem?_eq_getElem hl, ?_, ?_⟩
  · have := cb_list t.data.toList k hl
    rw [str_self] at this
    rw [this, List.getD_eq_getElem?_getD, List.getElem?_eq_getElem hl]; rfl
  · have e : cb t k = (t.data.toList[k]).toNat := by
      have := cb_list t.data.toList k hl
      rw [str_self] at this
      rw [this, List.getD_eq_getElem?_getD, List.getElem?_eq_getElem hl]; rfl
    exact byt_ext (l := [t.data.toList[k]]) ⟨e, True.intro⟩ (by simp; omega)
set_option maxHeartbeats 2000000 in
set_option maxRecDepth 100000 in
theorem rstring_any (t : ByteArray) (ht : t.size ≤ 1048576) (w : World) : Calls Tryz.prog 25 #[.string t] w fun e w' => StrO w' w t e := by
  go_enter Tryz.func25, Tryz.ntmps25
  go_wp2
  go_loop [4, 5] (fun o i => RsR t o i) (fun _ i => t.size - (intOf i).toNat)
  case atStart => exact ⟨0, ⟨#[34]⟩, Nat.zero_le _, rfl, rfl, rfl, by decide, fun c hc => by simp at hc⟩
  case round =>
    obtain ⟨k, D, hk, rfl, rfl, hD, hDs, hin⟩ := hrel
    have HD := Lib.hid hD; have HIN := Lib.hid hin
    clear hD hin
    by_cases hlt : k < t.size
    · have hbk := cb_at hlt
      obtain ⟨c, hc, hcb, hex⟩ := byte_at hlt
      have HC := Lib.hid hc; have HCB := Lib.hid hcb; have HEX := Lib.hid hex
      have hl : k < t.data.toList.length := by rw [len_data]; exact hlt
      have HTK : Hid (t.data.toList.take (k + 1) = t.data.toList.take k ++ [c]) := Lib.hid (by
        rw [List.take_add_one, hc, Option.toList_some])
      have IT : Hid (∀ W, Calls Tryz.prog 42 #[.int .u8 ((cb t k : Nat) : Int)] W fun e w' => e = .returned (.bool (bInner (cb t k))) ∧ W = w') := Lib.hid (fun W => inner6_any _ (cb_lt t k) W)
      rcases Bool.eq_false_or_eq_true (bInner (cb t k)) with hi | hi
      · have HIN2 : Hid (allIn (t.data.toList.take (k + 1))) := Lib.hid (by
          rw [HTK.out]; intro x hx
          rcases List.mem_append.1 hx with h | h
          · exact HIN.out x h
          · simp at h; subst h; rw [← hcb]; exact hi)
        rw [hi] at IT
        have hsx : (t.extract k (k + 1)).size = 1 := by rw [hex]; rfl
        clear hi
        by_cases h34 : cb t k = 34
        · have HN : Hid (D ++ ⟨#[34]⟩ ++ t.extract k (k + 1) = ⟨(34 :: dbl (t.data.toList.take (k + 1))).toArray⟩) := Lib.hid (by
            have e34 : c = 34 := u34.2 (by rw [← hcb]; exact h34)
            rw [HTK.out, dbl_app, hex, e34, HD.out]
            show (⟨(34 :: dbl (t.data.toList.take k)).toArray⟩ : ByteArray) ++ ⟨([34] : List UInt8).toArray⟩ ++ ⟨([34] : List UInt8).toArray⟩ = _
            rw [str_cat, str_cat]; congr 2; simp [dbl])
          have hsz : (D ++ ⟨#[34]⟩ ++ t.extract k (k + 1)).size ≤ 2 * (k + 1) + 1 := by
            rw [ByteArray.size_append, ByteArray.size_append, hsx]; show D.size + 1 + 1 ≤ _; omega
          rw [h34] at hbk IT
          clear h34 hc hcb hex
          go_wp2_with (go_at_call 42; refine (IT.out _).mono ?_; rintro e w1 ⟨rfl, rfl⟩)
          go_round
          case rel => exact ⟨k + 1, _, by omega, by go_num, rfl, HN.out, hsz, HIN2.out⟩
          case measure => simp [intOf]; omega
        · have HN : Hid (D ++ t.extract k (k + 1) = ⟨(34 :: dbl (t.data.toList.take (k + 1))).toArray⟩) := Lib.hid (by
            have e34 : c ≠ 34 := fun e => h34 (by rw [hcb]; exact u34.1 e)
            rw [HTK.out, dbl_app, hex, HD.out]
            show (⟨(34 :: dbl (t.data.toList.take k)).toArray⟩ : ByteArray) ++ ⟨([c] : List UInt8).toArray⟩ = _
            rw [str_cat]; congr 2; simp [dbl, e34])
          have hsz : (D ++ t.extract k (k + 1)).size ≤ 2 * (k + 1) + 1 := by
            rw [ByteArray.size_append, hsx]; omega
          have e0 : ((cb t k : Int) == 34) = false := ne_i (k := 34) h34
          clear h34 hc hcb hex
          go_wp2_with (go_at_call 42; refine (IT.out _).mono ?_; rintro e w1 ⟨rfl, rfl⟩)
          go_round
          case rel => exact ⟨k + 1, _, by omega, by go_num, rfl, HN.out, hsz, HIN2.out⟩
          case measure => simp [intOf]; omega
      · have HNI : Hid (¬ allIn t.data.toList) := Lib.hid (fun h => by
          have := h c (List.mem_of_getElem? hc)
          rw [← hcb, hi] at this; cases this)
        rw [hi] at IT
        clear hi hc hcb hex
        go_wp2_with (go_at_call 42; refine (IT.out _).mono ?_; rintro e w1 ⟨rfl, rfl⟩)
        go_ret2
        exact ⟨rfl, .inr ⟨HNI.out, rfl⟩⟩
    · obtain rfl : k = t.size := by omega
      have HALL : Hid (allIn t.data.toList) := Lib.hid (by have := HIN.out; rwa [← len_data, List.take_length] at this)
      have HQ : Hid (D ++ ⟨#[34]⟩ = qtB t) := Lib.hid (by
        rw [HD.out, ← len_data, List.take_length]
        show (⟨(34 :: dbl t.data.toList).toArray⟩ : ByteArray) ++ ⟨([34] : List UInt8).toArray⟩ = _
        rw [str_cat]; rfl)
      go_wp2
      go_ret2
      exact ⟨rfl, .inl ⟨HALL.out, by rw [← HQ.out]; rfl⟩⟩
end Go.Proofs.YtpkdiciinhjfjaaGreatDoor

/- lexis's reference: Write (written by gennk.py). -/
namespace Go.Proofs.YtpkdiciinhjfjaaGreatDoor
open Go.RowKit Mth

theorem good_in {x : Tk} (h7 : x.k = 7) (h : ¬ allIn x.t.data.toList) : ¬ Good x := by
  rintro ⟨kn, hk, h0, hz, ho⟩
  have e : wrB x = ⟨(34 :: (dbl x.t.data.toList ++ [34])).toArray⟩ := (wr7 h7).symm
  rw [e] at ho
  have hb := byt_self (34 :: (dbl x.t.data.toList ++ [34]))
  have hb2 := byt_app.1 hb.2
  have hsz := size_list (34 :: (dbl x.t.data.toList ++ [34]))
  rw [List.length_cons, List.length_append] at hsz
  rw [one_qu (by exact hb.1), qu_bad _ hb2.1 (by rw [hsz]; simp; omega) h] at ho
  cases ho
set_option maxHeartbeats 4000000 in
set_option maxRecDepth 100000 in
theorem rwrite_1 (q : Bool) (t : ByteArray) (l c : Int) (ht : t.size ≤ 1048576) (w : World) :
    Calls Tryz.prog 14 #[.agg #[.int .i64 1, .string t, .bool q, .int .i64 l, .int .i64 c]] w fun e w' => WriteO w w' ⟨1, t, q, l, c⟩ e := by
  have HK : Hid ((w.alloc (Obj.cells #[.int .i64 1, .string t, .bool q, .int .i64 l, .int .i64 c] 37)).heap[w.heap.size]? = some (.cells #[.int .i64 1, .string t, .bool q, .int .i64 l, .int .i64 c] 37 (0, 0))) := Lib.hid (heap_alloc_new w _)
  have HBW : Hid (Below w.heap.size w (w.alloc (Obj.cells #[.int .i64 1, .string t, .bool q, .int .i64 l, .int .i64 c] 37))) := Lib.hid ((Below.refl _ _).alloc (Nat.le_refl _) _)
  have HE : Hid (t = wrB ⟨1, t, q, l, c⟩) := Lib.hid (wrP (x := ⟨1, t, q, l, c⟩) (.inl ⟨by show (1 : Int) ≤ 1; omega, by show (1 : Int) ≤ 4; omega⟩))
  go_enter Tryz.func14, Tryz.ntmps14
  by_cases hs : (wrB ⟨1, t, q, l, c⟩).size ≤ 1048576
  · have SC := Lib.hid (rscan_any (wrB ⟨1, t, q, l, c⟩) hs (w.alloc (Obj.cells #[.int .i64 1, .string t, .bool q, .int .i64 l, .int .i64 c] 37)))
    rw [← HE.out] at SC
    go_wp2_with fail
    refine SC.out.mono ?_
    rintro e w2 ⟨hb2, (⟨L, v, hLs, rfl, htk, hfar⟩ | ⟨E, x0, y0, hbad, hE, rfl⟩)⟩
    · have BX : Hid (Below w.heap.size w w2) := Lib.hid (HBW.out.trans (hb2.mono HBW.out.size))
      have hbk2 : w2.heap[w.heap.size]? = _ := (hb2.block _ (Array.getElem?_eq_some_iff.1 HK.out).1).trans HK.out
      obtain ⟨c0, c1, c2, c3, c4⟩ := blk5 hbk2
      obtain ⟨ao, cap, rfl, hcs⟩ := htk
      have HCS := Lib.hid hcs
      rw [HE.out] at hLs
      clear hcs hbk2 hfar
      by_cases hg : Good ⟨1, t, q, l, c⟩
      · have hLg : L = [⟨1, t, q, 1, 1⟩] := by
          have := scan_of_good hg
          rw [hLs] at this
          injection this
        have HG := Lib.hid hg
        subst hLg
        obtain ⟨b, off, rfl, hlt, hc⟩ := HCS.out (by simp)
        obtain ⟨a0, a1, a2, a3, a4⟩ := TkL.at hc (i := 0) rfl
        rw [Nat.zero_mul, Nat.add_zero] at a0 a1 a2 a3 a4
        clear hc hLs hb2 hg SC
        go_wp2
        go_quiet (fail)
        go_wp2
        go_ret2
        exact ⟨below_drewN BX.out _, .inl ⟨HG.out, by rw [← HE.out]; rfl⟩⟩
      · have HN := Lib.hid hg
        by_cases h1 : L.length = 1
        · obtain ⟨y, rfl⟩ : ∃ y, L = [y] := by
            cases L with
            | nil => simp at h1
            | cons y L => cases L with
              | nil => exact ⟨y, rfl⟩
              | cons z L => simp at h1
          have hne : ¬ (y.k = 1 ∧ y.t = t ∧ y.q = q) := fun ⟨a, b, d⟩ => hg (good_of_scan hs hLs a b d)
          have HNE := Lib.hid hne
          obtain ⟨b, off, rfl, hlt, hc⟩ := HCS.out (by simp)
          obtain ⟨a0, a1, a2, a3, a4⟩ := TkL.at hc (i := 0) rfl
          rw [Nat.zero_mul, Nat.add_zero] at a0 a1 a2 a3 a4
          clear hc hLs hb2 hg hne h1 SC
          obtain ⟨yk, yt, yq, yl, yc⟩ := y
          by_cases n1 : yk = 1
          · subst n1
            by_cases n3 : yt = t
            · have n2 : ¬ yq = q := fun e => HNE.out ⟨rfl, n3, e⟩
              have e2 : (yq != q) = true := bne_iff_ne.2 n2
              have e2' : (yq == q) = false := beq_eq_false_iff_ne.2 n2
              subst n3
              clear n2
              go_wp2
              go_quiet (fail)
              go_wp2
              go_ret2
              exact ⟨below_drewN BX.out _, .inr ⟨HN.out, rfl⟩⟩
            · have n4 : ¬ yt.toList = t.toList := fun e => n3 (by
                rw [ByteArray.toList_eq, ByteArray.toList_eq] at e
                cases yt; cases t; exact congrArg ByteArray.mk (Array.toList_inj.1 e))
              have e3 : (yt.toList == t.toList) = false := beq_eq_false_iff_ne.2 n4
              clear n3
              go_wp2
              go_quiet (fail)
              go_wp2
              go_ret2
              exact ⟨below_drewN BX.out _, .inr ⟨HN.out, rfl⟩⟩
          · have e1 : (yk != 1) = true := bne_iff_ne.2 n1
            clear n1
            go_wp2
            go_quiet (fail)
            go_wp2
            go_ret2
            exact ⟨below_drewN BX.out _, .inr ⟨HN.out, rfl⟩⟩
        · have e1 : ((L.length : Int) != 1) = true := by rw [bne_iff_ne]; omega
          clear hg hLs hb2 h1 SC
          go_wp2
          go_quiet (fail)
          go_wp2
          go_ret2
          exact ⟨below_drewN BX.out _, .inr ⟨HN.out, rfl⟩⟩
    · have HN : Hid (¬ Good ⟨1, t, q, l, c⟩) := Lib.hid (fun h => by rw [HE.out] at hbad; have := scan_of_good h; rw [hbad] at this; cases this)
      have BX : Hid (Below w.heap.size w w2) := Lib.hid (HBW.out.trans (hb2.mono HBW.out.size))
      have hbk2 : w2.heap[w.heap.size]? = _ := (hb2.block _ (Array.getElem?_eq_some_iff.1 HK.out).1).trans HK.out
      obtain ⟨c0, c1, c2, c3, c4⟩ := blk5 hbk2
      have hE0 : ((E : Int) != 0) = true := by rw [bne_iff_ne]; omega
      clear hb2 hbad hE hbk2 SC
      go_wp2
      go_quiet (fail)
      go_wp2
      go_ret2
      exact ⟨below_drewN BX.out _, .inr ⟨HN.out, rfl⟩⟩
  · have SC := Lib.hid (rscan_long (wrB ⟨1, t, q, l, c⟩) (by omega) (w.alloc (Obj.cells #[.int .i64 1, .string t, .bool q, .int .i64 l, .int .i64 c] 37)))
    have HN : Hid (¬ Good ⟨1, t, q, l, c⟩) := Lib.hid (fun ⟨_, _, _, h, _⟩ => hs h)
    rw [← HE.out] at SC
    have BX := HBW
    obtain ⟨c0, c1, c2, c3, c4⟩ := blk5 HK.out
    clear hs
    go_wp2_with (go_at_call 26; refine SC.out.mono ?_; rintro e w2 ⟨rfl, rfl⟩)
    go_quiet (fail)
    go_wp2
    go_ret2
    exact ⟨below_drewN BX.out _, .inr ⟨HN.out, rfl⟩⟩
set_option maxHeartbeats 4000000 in
set_option maxRecDepth 100000 in
theorem rwrite_2 (q : Bool) (t : ByteArray) (l c : Int) (ht : t.size ≤ 1048576) (w : World) :
    Calls Tryz.prog 14 #[.agg #[.int .i64 2, .string t, .bool q, .int .i64 l, .int .i64 c]] w fun e w' => WriteO w w' ⟨2, t, q, l, c⟩ e := by
  have HK : Hid ((w.alloc (Obj.cells #[.int .i64 2, .string t, .bool q, .int .i64 l, .int .i64 c] 37)).heap[w.heap.size]? = some (.cells #[.int .i64 2, .string t, .bool q, .int .i64 l, .int .i64 c] 37 (0, 0))) := Lib.hid (heap_alloc_new w _)
  have HBW : Hid (Below w.heap.size w (w.alloc (Obj.cells #[.int .i64 2, .string t, .bool q, .int .i64 l, .int .i64 c] 37))) := Lib.hid ((Below.refl _ _).alloc (Nat.le_refl _) _)
  have HE : Hid (t = wrB ⟨2, t, q, l, c⟩) := Lib.hid (wrP (x := ⟨2, t, q, l, c⟩) (.inl ⟨by show (1 : Int) ≤ 2; omega, by show (2 : Int) ≤ 4; omega⟩))
  go_enter Tryz.func14, Tryz.ntmps14
  by_cases hs : (wrB ⟨2, t, q, l, c⟩).size ≤ 1048576
  · have SC := Lib.hid (rscan_any (wrB ⟨2, t, q, l, c⟩) hs (w.alloc (Obj.cells #[.int .i64 2, .string t, .bool q, .int .i64 l, .int .i64 c] 37)))
    rw [← HE.out] at SC
    go_wp2_with fail
    refine SC.out.mono ?_
    rintro e w2 ⟨hb2, (⟨L, v, hLs, rfl, htk, hfar⟩ | ⟨E, x0, y0, hbad, hE, rfl⟩)⟩
    · have BX : Hid (Below w.heap.size w w2) := Lib.hid (HBW.out.trans (hb2.mono HBW.out.size))
      have hbk2 : w2.heap[w.heap.size]? = _ := (hb2.block _ (Array.getElem?_eq_some_iff.1 HK.out).1).trans HK.out
      obtain ⟨c0, c1, c2, c3, c4⟩ := blk5 hbk2
      obtain ⟨ao, cap, rfl, hcs⟩ := htk
      have HCS := Lib.hid hcs
      rw [HE.out] at hLs
      clear hcs hbk2 hfar
      by_cases hg : Good ⟨2, t, q, l, c⟩
      · have hLg : L = [⟨2, t, q, 1, 1⟩] := by
          have := scan_of_good hg
          rw [hLs] at this
          injection this
        have HG := Lib.hid hg
        subst hLg
        obtain ⟨b, off, rfl, hlt, hc⟩ := HCS.out (by simp)
        obtain ⟨a0, a1, a2, a3, a4⟩ := TkL.at hc (i := 0) rfl
        rw [Nat.zero_mul, Nat.add_zero] at a0 a1 a2 a3 a4
        clear hc hLs hb2 hg SC
        go_wp2
        go_quiet (fail)
        go_wp2
        go_ret2
        exact ⟨below_drewN BX.out _, .inl ⟨HG.out, by rw [← HE.out]; rfl⟩⟩
      · have HN := Lib.hid hg
        by_cases h1 : L.length = 1
        · obtain ⟨y, rfl⟩ : ∃ y, L = [y] := by
            cases L with
            | nil => simp at h1
            | cons y L => cases L with
              | nil => exact ⟨y, rfl⟩
              | cons z L => simp at h1
          have hne : ¬ (y.k = 2 ∧ y.t = t ∧ y.q = q) := fun ⟨a, b, d⟩ => hg (good_of_scan hs hLs a b d)
          have HNE := Lib.hid hne
          obtain ⟨b, off, rfl, hlt, hc⟩ := HCS.out (by simp)
          obtain ⟨a0, a1, a2, a3, a4⟩ := TkL.at hc (i := 0) rfl
          rw [Nat.zero_mul, Nat.add_zero] at a0 a1 a2 a3 a4
          clear hc hLs hb2 hg hne h1 SC
          obtain ⟨yk, yt, yq, yl, yc⟩ := y
          by_cases n1 : yk = 2
          · subst n1
            by_cases n3 : yt = t
            · have n2 : ¬ yq = q := fun e => HNE.out ⟨rfl, n3, e⟩
              have e2 : (yq != q) = true := bne_iff_ne.2 n2
              have e2' : (yq == q) = false := beq_eq_false_iff_ne.2 n2
              subst n3
              clear n2
              go_wp2
              go_quiet (fail)
              go_wp2
              go_ret2
              exact ⟨below_drewN BX.out _, .inr ⟨HN.out, rfl⟩⟩
            · have n4 : ¬ yt.toList = t.toList := fun e => n3 (by
                rw [ByteArray.toList_eq, ByteArray.toList_eq] at e
                cases yt; cases t; exact congrArg ByteArray.mk (Array.toList_inj.1 e))
              have e3 : (yt.toList == t.toList) = false := beq_eq_false_iff_ne.2 n4
              clear n3
              go_wp2
              go_quiet (fail)
              go_wp2
              go_ret2
              exact ⟨below_drewN BX.out _, .inr ⟨HN.out, rfl⟩⟩
          · have e1 : (yk != 2) = true := bne_iff_ne.2 n1
            clear n1
            go_wp2
            go_quiet (fail)
            go_wp2
            go_ret2
            exact ⟨below_drewN BX.out _, .inr ⟨HN.out, rfl⟩⟩
        · have e1 : ((L.length : Int) != 1) = true := by rw [bne_iff_ne]; omega
          clear hg hLs hb2 h1 SC
          go_wp2
          go_quiet (fail)
          go_wp2
          go_ret2
          exact ⟨below_drewN BX.out _, .inr ⟨HN.out, rfl⟩⟩
    · have HN : Hid (¬ Good ⟨2, t, q, l, c⟩) := Lib.hid (fun h => by rw [HE.out] at hbad; have := scan_of_good h; rw [hbad] at this; cases this)
      have BX : Hid (Below w.heap.size w w2) := Lib.hid (HBW.out.trans (hb2.mono HBW.out.size))
      have hbk2 : w2.heap[w.heap.size]? = _ := (hb2.block _ (Array.getElem?_eq_some_iff.1 HK.out).1).trans HK.out
      obtain ⟨c0, c1, c2, c3, c4⟩ := blk5 hbk2
      have hE0 : ((E : Int) != 0) = true := by rw [bne_iff_ne]; omega
      clear hb2 hbad hE hbk2 SC
      go_wp2
      go_quiet (fail)
      go_wp2
      go_ret2
      exact ⟨below_drewN BX.out _, .inr ⟨HN.out, rfl⟩⟩
  · have SC := Lib.hid (rscan_long (wrB ⟨2, t, q, l, c⟩) (by omega) (w.alloc (Obj.cells #[.int .i64 2, .string t, .bool q, .int .i64 l, .int .i64 c] 37)))
    have HN : Hid (¬ Good ⟨2, t, q, l, c⟩) := Lib.hid (fun ⟨_, _, _, h, _⟩ => hs h)
    rw [← HE.out] at SC
    have BX := HBW
    obtain ⟨c0, c1, c2, c3, c4⟩ := blk5 HK.out
    clear hs
    go_wp2_with (go_at_call 26; refine SC.out.mono ?_; rintro e w2 ⟨rfl, rfl⟩)
    go_quiet (fail)
    go_wp2
    go_ret2
    exact ⟨below_drewN BX.out _, .inr ⟨HN.out, rfl⟩⟩
set_option maxHeartbeats 4000000 in
set_option maxRecDepth 100000 in
theorem rwrite_3 (q : Bool) (t : ByteArray) (l c : Int) (ht : t.size ≤ 1048576) (w : World) :
    Calls Tryz.prog 14 #[.agg #[.int .i64 3, .string t, .bool q, .int .i64 l, .int .i64 c]] w fun e w' => WriteO w w' ⟨3, t, q, l, c⟩ e := by
  have HK : Hid ((w.alloc (Obj.cells #[.int .i64 3, .string t, .bool q, .int .i64 l, .int .i64 c] 37)).heap[w.heap.size]? = some (.cells #[.int .i64 3, .string t, .bool q, .int .i64 l, .int .i64 c] 37 (0, 0))) := Lib.hid (heap_alloc_new w _)
  have HBW : Hid (Below w.heap.size w (w.alloc (Obj.cells #[.int .i64 3, .string t, .bool q, .int .i64 l, .int .i64 c] 37))) := Lib.hid ((Below.refl _ _).alloc (Nat.le_refl _) _)
  have HE : Hid (t = wrB ⟨3, t, q, l, c⟩) := Lib.hid (wrP (x := ⟨3, t, q, l, c⟩) (.inl ⟨by show (1 : Int) ≤ 3; omega, by show (3 : Int) ≤ 4; omega⟩))
  go_enter Tryz.func14, Tryz.ntmps14
  by_cases hs : (wrB ⟨3, t, q, l, c⟩).size ≤ 1048576
  · have SC := Lib.hid (rscan_any (wrB ⟨3, t, q, l, c⟩) hs (w.alloc (Obj.cells #[.int .i64 3, .string t, .bool q, .int .i64 l, .int .i64 c] 37)))
    rw [← HE.out] at SC
    go_wp2_with fail
    refine SC.out.mono ?_
    rintro e w2 ⟨hb2, (⟨L, v, hLs, rfl, htk, hfar⟩ | ⟨E, x0, y0, hbad, hE, rfl⟩)⟩
    · have BX : Hid (Below w.heap.size w w2) := Lib.hid (HBW.out.trans (hb2.mono HBW.out.size))
      have hbk2 : w2.heap[w.heap.size]? = _ := (hb2.block _ (Array.getElem?_eq_some_iff.1 HK.out).1).trans HK.out
      obtain ⟨c0, c1, c2, c3, c4⟩ := blk5 hbk2
      obtain ⟨ao, cap, rfl, hcs⟩ := htk
      have HCS := Lib.hid hcs
      rw [HE.out] at hLs
      clear hcs hbk2 hfar
      by_cases hg : Good ⟨3, t, q, l, c⟩
      · have hLg : L = [⟨3, t, q, 1, 1⟩] := by
          have := scan_of_good hg
          rw [hLs] at this
          injection this
        have HG := Lib.hid hg
        subst hLg
        obtain ⟨b, off, rfl, hlt, hc⟩ := HCS.out (by simp)
        obtain ⟨a0, a1, a2, a3, a4⟩ := TkL.at hc (i := 0) rfl
        rw [Nat.zero_mul, Nat.add_zero] at a0 a1 a2 a3 a4
        clear hc hLs hb2 hg SC
        go_wp2
        go_quiet (fail)
        go_wp2
        go_ret2
        exact ⟨below_drewN BX.out _, .inl ⟨HG.out, by rw [← HE.out]; rfl⟩⟩
      · have HN := Lib.hid hg
        by_cases h1 : L.length = 1
        · obtain ⟨y, rfl⟩ : ∃ y, L = [y] := by
            cases L with
            | nil => simp at h1
            | cons y L => cases L with
              | nil => exact ⟨y, rfl⟩
              | cons z L => simp at h1
          have hne : ¬ (y.k = 3 ∧ y.t = t ∧ y.q = q) := fun ⟨a, b, d⟩ => hg (good_of_scan hs hLs a b d)
          have HNE := Lib.hid hne
          obtain ⟨b, off, rfl, hlt, hc⟩ := HCS.out (by simp)
          obtain ⟨a0, a1, a2, a3, a4⟩ := TkL.at hc (i := 0) rfl
          rw [Nat.zero_mul, Nat.add_zero] at a0 a1 a2 a3 a4
          clear hc hLs hb2 hg hne h1 SC
          obtain ⟨yk, yt, yq, yl, yc⟩ := y
          by_cases n1 : yk = 3
          · subst n1
            by_cases n3 : yt = t
            · have n2 : ¬ yq = q := fun e => HNE.out ⟨rfl, n3, e⟩
              have e2 : (yq != q) = true := bne_iff_ne.2 n2
              have e2' : (yq == q) = false := beq_eq_false_iff_ne.2 n2
              subst n3
              clear n2
              go_wp2
              go_quiet (fail)
              go_wp2
              go_ret2
              exact ⟨below_drewN BX.out _, .inr ⟨HN.out, rfl⟩⟩
            · have n4 : ¬ yt.toList = t.toList := fun e => n3 (by
                rw [ByteArray.toList_eq, ByteArray.toList_eq] at e
                cases yt; cases t; exact congrArg ByteArray.mk (Array.toList_inj.1 e))
              have e3 : (yt.toList == t.toList) = false := beq_eq_false_iff_ne.2 n4
              clear n3
              go_wp2
              go_quiet (fail)
              go_wp2
              go_ret2
              exact ⟨below_drewN BX.out _, .inr ⟨HN.out, rfl⟩⟩
          · have e1 : (yk != 3) = true := bne_iff_ne.2 n1
            clear n1
            go_wp2
            go_quiet (fail)
            go_wp2
            go_ret2
            exact ⟨below_drewN BX.out _, .inr ⟨HN.out, rfl⟩⟩
        · have e1 : ((L.length : Int) != 1) = true := by rw [bne_iff_ne]; omega
          clear hg hLs hb2 h1 SC
          go_wp2
          go_quiet (fail)
          go_wp2
          go_ret2
          exact ⟨below_drewN BX.out _, .inr ⟨HN.out, rfl⟩⟩
    · have HN : Hid (¬ Good ⟨3, t, q, l, c⟩) := Lib.hid (fun h => by rw [HE.out] at hbad; have := scan_of_good h; rw [hbad] at this; cases this)
      have BX : Hid (Below w.heap.size w w2) := Lib.hid (HBW.out.trans (hb2.mono HBW.out.size))
      have hbk2 : w2.heap[w.heap.size]? = _ := (hb2.block _ (Array.getElem?_eq_some_iff.1 HK.out).1).trans HK.out
      obtain ⟨c0, c1, c2, c3, c4⟩ := blk5 hbk2
      have hE0 : ((E : Int) != 0) = true := by rw [bne_iff_ne]; omega
      clear hb2 hbad hE hbk2 SC
      go_wp2
      go_quiet (fail)
      go_wp2
      go_ret2
      exact ⟨below_drewN BX.out _, .inr ⟨HN.out, rfl⟩⟩
  · have SC := Lib.hid (rscan_long (wrB ⟨3, t, q, l, c⟩) (by omega) (w.alloc (Obj.cells #[.int .i64 3, .string t, .bool q, .int .i64 l, .int .i64 c] 37)))
    have HN : Hid (¬ Good ⟨3, t, q, l, c⟩) := Lib.hid (fun ⟨_, _, _, h, _⟩ => hs h)
    rw [← HE.out] at SC
    have BX := HBW
    obtain ⟨c0, c1, c2, c3, c4⟩ := blk5 HK.out
    clear hs
    go_wp2_with (go_at_call 26; refine SC.out.mono ?_; rintro e w2 ⟨rfl, rfl⟩)
    go_quiet (fail)
    go_wp2
    go_ret2
    exact ⟨below_drewN BX.out _, .inr ⟨HN.out, rfl⟩⟩
set_option maxHeartbeats 4000000 in
set_option maxRecDepth 100000 in
theorem rwrite_4 (q : Bool) (t : ByteArray) (l c : Int) (ht : t.size ≤ 1048576) (w : World) :
    Calls Tryz.prog 14 #[.agg #[.int .i64 4, .string t, .bool q, .int .i64 l, .int .i64 c]] w fun e w' => WriteO w w' ⟨4, t, q, l, c⟩ e := by
  have HK : Hid ((w.alloc (Obj.cells #[.int .i64 4, .string t, .bool q, .int .i64 l, .int .i64 c] 37)).heap[w.heap.size]? = some (.cells #[.int .i64 4, .string t, .bool q, .int .i64 l, .int .i64 c] 37 (0, 0))) := Lib.hid (heap_alloc_new w _)
  have HBW : Hid (Below w.heap.size w (w.alloc (Obj.cells #[.int .i64 4, .string t, .bool q, .int .i64 l, .int .i64 c] 37))) := Lib.hid ((Below.refl _ _).alloc (Nat.le_refl _) _)
  have HE : Hid (t = wrB ⟨4, t, q, l, c⟩) := Lib.hid (wrP (x := ⟨4, t, q, l, c⟩) (.inl ⟨by show (1 : Int) ≤ 4; omega, by show (4 : Int) ≤ 4; omega⟩))
  go_enter Tryz.func14, Tryz.ntmps14
  by_cases hs : (wrB ⟨4, t, q, l, c⟩).size ≤ 1048576
  · have SC := Lib.hid (rscan_any (wrB ⟨4, t, q, l, c⟩) hs (w.alloc (Obj.cells #[.int .i64 4, .string t, .bool q, .int .i64 l, .int .i64 c] 37)))
    rw [← HE.out] at SC
    go_wp2_with fail
    refine SC.out.mono ?_
    rintro e w2 ⟨hb2, (⟨L, v, hLs, rfl, htk, hfar⟩ | ⟨E, x0, y0, hbad, hE, rfl⟩)⟩
    · have BX : Hid (Below w.heap.size w w2) := Lib.hid (HBW.out.trans (hb2.mono HBW.out.size))
      have hbk2 : w2.heap[w.heap.size]? = _ := (hb2.block _ (Array.getElem?_eq_some_iff.1 HK.out).1).trans HK.out
      obtain ⟨c0, c1, c2, c3, c4⟩ := blk5 hbk2
      obtain ⟨ao, cap, rfl, hcs⟩ := htk
      have HCS := Lib.hid hcs
      rw [HE.out] at hLs
      clear hcs hbk2 hfar
      by_cases hg : Good ⟨4, t, q, l, c⟩
      · have hLg : L = [⟨4, t, q, 1, 1⟩] := by
          have := scan_of_good hg
          rw [hLs] at this
          injection this
        have HG := Lib.hid hg
        subst hLg
        obtain ⟨b, off, rfl, hlt, hc⟩ := HCS.out (by simp)
        obtain ⟨a0, a1, a2, a3, a4⟩ := TkL.at hc (i := 0) rfl
        rw [Nat.zero_mul, Nat.add_zero] at a0 a1 a2 a3 a4
        clear hc hLs hb2 hg SC
        go_wp2
        go_quiet (fail)
        go_wp2
        go_ret2
        exact ⟨below_drewN BX.out _, .inl ⟨HG.out, by rw [← HE.out]; rfl⟩⟩
      · have HN := Lib.hid hg
        by_cases h1 : L.length = 1
        · obtain ⟨y, rfl⟩ : ∃ y, L = [y] := by
            cases L with
            | nil => simp at h1
            | cons y L => cases L with
              | nil => exact ⟨y, rfl⟩
              | cons z L => simp at h1
          have hne : ¬ (y.k = 4 ∧ y.t = t ∧ y.q = q) := fun ⟨a, b, d⟩ => hg (good_of_scan hs hLs a b d)
          have HNE := Lib.hid hne
          obtain ⟨b, off, rfl, hlt, hc⟩ := HCS.out (by simp)
          obtain ⟨a0, a1, a2, a3, a4⟩ := TkL.at hc (i := 0) rfl
          rw [Nat.zero_mul, Nat.add_zero] at a0 a1 a2 a3 a4
          clear hc hLs hb2 hg hne h1 SC
          obtain ⟨yk, yt, yq, yl, yc⟩ := y
          by_cases n1 : yk = 4
          · subst n1
            by_cases n3 : yt = t
            · have n2 : ¬ yq = q := fun e => HNE.out ⟨rfl, n3, e⟩
              have e2 : (yq != q) = true := bne_iff_ne.2 n2
              have e2' : (yq == q) = false := beq_eq_false_iff_ne.2 n2
              subst n3
              clear n2
              go_wp2
              go_quiet (fail)
              go_wp2
              go_ret2
              exact ⟨below_drewN BX.out _, .inr ⟨HN.out, rfl⟩⟩
            · have n4 : ¬ yt.toList = t.toList := fun e => n3 (by
                rw [ByteArray.toList_eq, ByteArray.toList_eq] at e
                cases yt; cases t; exact congrArg ByteArray.mk (Array.toList_inj.1 e))
              have e3 : (yt.toList == t.toList) = false := beq_eq_false_iff_ne.2 n4
              clear n3
              go_wp2
              go_quiet (fail)
              go_wp2
              go_ret2
              exact ⟨below_drewN BX.out _, .inr ⟨HN.out, rfl⟩⟩
          · have e1 : (yk != 4) = true := bne_iff_ne.2 n1
            clear n1
            go_wp2
            go_quiet (fail)
            go_wp2
            go_ret2
            exact ⟨below_drewN BX.out _, .inr ⟨HN.out, rfl⟩⟩
        · have e1 : ((L.length : Int) != 1) = true := by rw [bne_iff_ne]; omega
          clear hg hLs hb2 h1 SC
          go_wp2
          go_quiet (fail)
          go_wp2
          go_ret2
          exact ⟨below_drewN BX.out _, .inr ⟨HN.out, rfl⟩⟩
    · have HN : Hid (¬ Good ⟨4, t, q, l, c⟩) := Lib.hid (fun h => by rw [HE.out] at hbad; have := scan_of_good h; rw [hbad] at this; cases this)
      have BX : Hid (Below w.heap.size w w2) := Lib.hid (HBW.out.trans (hb2.mono HBW.out.size))
      have hbk2 : w2.heap[w.heap.size]? = _ := (hb2.block _ (Array.getElem?_eq_some_iff.1 HK.out).1).trans HK.out
      obtain ⟨c0, c1, c2, c3, c4⟩ := blk5 hbk2
      have hE0 : ((E : Int) != 0) = true := by rw [bne_iff_ne]; omega
      clear hb2 hbad hE hbk2 SC
      go_wp2
      go_quiet (fail)
      go_wp2
      go_ret2
      exact ⟨below_drewN BX.out _, .inr ⟨HN.out, rfl⟩⟩
  · have SC := Lib.hid (rscan_long (wrB ⟨4, t, q, l, c⟩) (by omega) (w.alloc (Obj.cells #[.int .i64 4, .string t, .bool q, .int .i64 l, .int .i64 c] 37)))
    have HN : Hid (¬ Good ⟨4, t, q, l, c⟩) := Lib.hid (fun ⟨_, _, _, h, _⟩ => hs h)
    rw [← HE.out] at SC
    have BX := HBW
    obtain ⟨c0, c1, c2, c3, c4⟩ := blk5 HK.out
    clear hs
    go_wp2_with (go_at_call 26; refine SC.out.mono ?_; rintro e w2 ⟨rfl, rfl⟩)
    go_quiet (fail)
    go_wp2
    go_ret2
    exact ⟨below_drewN BX.out _, .inr ⟨HN.out, rfl⟩⟩
set_option maxHeartbeats 4000000 in
set_option maxRecDepth 100000 in
theorem rwrite_5 (q : Bool) (t : ByteArray) (l c : Int) (ht : t.size ≤ 1048576) (w : World) :
    Calls Tryz.prog 14 #[.agg #[.int .i64 5, .string t, .bool q, .int .i64 l, .int .i64 c]] w fun e w' => WriteO w w' ⟨5, t, q, l, c⟩ e := by
  have HK : Hid ((w.alloc (Obj.cells #[.int .i64 5, .string t, .bool q, .int .i64 l, .int .i64 c] 37)).heap[w.heap.size]? = some (.cells #[.int .i64 5, .string t, .bool q, .int .i64 l, .int .i64 c] 37 (0, 0))) := Lib.hid (heap_alloc_new w _)
  have HBW : Hid (Below w.heap.size w (w.alloc (Obj.cells #[.int .i64 5, .string t, .bool q, .int .i64 l, .int .i64 c] 37))) := Lib.hid ((Below.refl _ _).alloc (Nat.le_refl _) _)
  have HE : Hid ((⟨#[35, 120]⟩ : ByteArray) ++ t = wrB ⟨5, t, q, l, c⟩) := Lib.hid (wr5 (x := ⟨5, t, q, l, c⟩) rfl)
  go_enter Tryz.func14, Tryz.ntmps14
  by_cases hs : (wrB ⟨5, t, q, l, c⟩).size ≤ 1048576
  · have SC := Lib.hid (rscan_any (wrB ⟨5, t, q, l, c⟩) hs (w.alloc (Obj.cells #[.int .i64 5, .string t, .bool q, .int .i64 l, .int .i64 c] 37)))
    rw [← HE.out] at SC
    go_wp2_with fail
    refine SC.out.mono ?_
    rintro e w2 ⟨hb2, (⟨L, v, hLs, rfl, htk, hfar⟩ | ⟨E, x0, y0, hbad, hE, rfl⟩)⟩
    · have BX : Hid (Below w.heap.size w w2) := Lib.hid (HBW.out.trans (hb2.mono HBW.out.size))
      have hbk2 : w2.heap[w.heap.size]? = _ := (hb2.block _ (Array.getElem?_eq_some_iff.1 HK.out).1).trans HK.out
      obtain ⟨c0, c1, c2, c3, c4⟩ := blk5 hbk2
      obtain ⟨ao, cap, rfl, hcs⟩ := htk
      have HCS := Lib.hid hcs
      rw [HE.out] at hLs
      clear hcs hbk2 hfar
      by_cases hg : Good ⟨5, t, q, l, c⟩
      · have hLg : L = [⟨5, t, q, 1, 1⟩] := by
          have := scan_of_good hg
          rw [hLs] at this
          injection this
        have HG := Lib.hid hg
        subst hLg
        obtain ⟨b, off, rfl, hlt, hc⟩ := HCS.out (by simp)
        obtain ⟨a0, a1, a2, a3, a4⟩ := TkL.at hc (i := 0) rfl
        rw [Nat.zero_mul, Nat.add_zero] at a0 a1 a2 a3 a4
        clear hc hLs hb2 hg SC
        go_wp2
        go_quiet (fail)
        go_wp2
        go_ret2
        exact ⟨below_drewN BX.out _, .inl ⟨HG.out, by rw [← HE.out]; rfl⟩⟩
      · have HN := Lib.hid hg
        by_cases h1 : L.length = 1
        · obtain ⟨y, rfl⟩ : ∃ y, L = [y] := by
            cases L with
            | nil => simp at h1
            | cons y L => cases L with
              | nil => exact ⟨y, rfl⟩
              | cons z L => simp at h1
          have hne : ¬ (y.k = 5 ∧ y.t = t ∧ y.q = q) := fun ⟨a, b, d⟩ => hg (good_of_scan hs hLs a b d)
          have HNE := Lib.hid hne
          obtain ⟨b, off, rfl, hlt, hc⟩ := HCS.out (by simp)
          obtain ⟨a0, a1, a2, a3, a4⟩ := TkL.at hc (i := 0) rfl
          rw [Nat.zero_mul, Nat.add_zero] at a0 a1 a2 a3 a4
          clear hc hLs hb2 hg hne h1 SC
          obtain ⟨yk, yt, yq, yl, yc⟩ := y
          by_cases n1 : yk = 5
          · subst n1
            by_cases n3 : yt = t
            · have n2 : ¬ yq = q := fun e => HNE.out ⟨rfl, n3, e⟩
              have e2 : (yq != q) = true := bne_iff_ne.2 n2
              have e2' : (yq == q) = false := beq_eq_false_iff_ne.2 n2
              subst n3
              clear n2
              go_wp2
              go_quiet (fail)
              go_wp2
              go_ret2
              exact ⟨below_drewN BX.out _, .inr ⟨HN.out, rfl⟩⟩
            · have n4 : ¬ yt.toList = t.toList := fun e => n3 (by
                rw [ByteArray.toList_eq, ByteArray.toList_eq] at e
                cases yt; cases t; exact congrArg ByteArray.mk (Array.toList_inj.1 e))
              have e3 : (yt.toList == t.toList) = false := beq_eq_false_iff_ne.2 n4
              clear n3
              go_wp2
              go_quiet (fail)
              go_wp2
              go_ret2
              exact ⟨below_drewN BX.out _, .inr ⟨HN.out, rfl⟩⟩
          · have e1 : (yk != 5) = true := bne_iff_ne.2 n1
            clear n1
            go_wp2
            go_quiet (fail)
            go_wp2
            go_ret2
            exact ⟨below_drewN BX.out _, .inr ⟨HN.out, rfl⟩⟩
        · have e1 : ((L.length : Int) != 1) = true := by rw [bne_iff_ne]; omega
          clear hg hLs hb2 h1 SC
          go_wp2
          go_quiet (fail)
          go_wp2
          go_ret2
          exact ⟨below_drewN BX.out _, .inr ⟨HN.out, rfl⟩⟩
    · have HN : Hid (¬ Good ⟨5, t, q, l, c⟩) := Lib.hid (fun h => by rw [HE.out] at hbad; have := scan_of_good h; rw [hbad] at this; cases this)
      have BX : Hid (Below w.heap.size w w2) := Lib.hid (HBW.out.trans (hb2.mono HBW.out.size))
      have hbk2 : w2.heap[w.heap.size]? = _ := (hb2.block _ (Array.getElem?_eq_some_iff.1 HK.out).1).trans HK.out
      obtain ⟨c0, c1, c2, c3, c4⟩ := blk5 hbk2
      have hE0 : ((E : Int) != 0) = true := by rw [bne_iff_ne]; omega
      clear hb2 hbad hE hbk2 SC
      go_wp2
      go_quiet (fail)
      go_wp2
      go_ret2
      exact ⟨below_drewN BX.out _, .inr ⟨HN.out, rfl⟩⟩
  · have SC := Lib.hid (rscan_long (wrB ⟨5, t, q, l, c⟩) (by omega) (w.alloc (Obj.cells #[.int .i64 5, .string t, .bool q, .int .i64 l, .int .i64 c] 37)))
    have HN : Hid (¬ Good ⟨5, t, q, l, c⟩) := Lib.hid (fun ⟨_, _, _, h, _⟩ => hs h)
    rw [← HE.out] at SC
    have BX := HBW
    obtain ⟨c0, c1, c2, c3, c4⟩ := blk5 HK.out
    clear hs
    go_wp2_with (go_at_call 26; refine SC.out.mono ?_; rintro e w2 ⟨rfl, rfl⟩)
    go_quiet (fail)
    go_wp2
    go_ret2
    exact ⟨below_drewN BX.out _, .inr ⟨HN.out, rfl⟩⟩
set_option maxHeartbeats 4000000 in
set_option maxRecDepth 100000 in
theorem rwrite_6 (q : Bool) (t : ByteArray) (l c : Int) (ht : t.size ≤ 1048576) (w : World) :
    Calls Tryz.prog 14 #[.agg #[.int .i64 6, .string t, .bool q, .int .i64 l, .int .i64 c]] w fun e w' => WriteO w w' ⟨6, t, q, l, c⟩ e := by
  have HK : Hid ((w.alloc (Obj.cells #[.int .i64 6, .string t, .bool q, .int .i64 l, .int .i64 c] 37)).heap[w.heap.size]? = some (.cells #[.int .i64 6, .string t, .bool q, .int .i64 l, .int .i64 c] 37 (0, 0))) := Lib.hid (heap_alloc_new w _)
  have HBW : Hid (Below w.heap.size w (w.alloc (Obj.cells #[.int .i64 6, .string t, .bool q, .int .i64 l, .int .i64 c] 37))) := Lib.hid ((Below.refl _ _).alloc (Nat.le_refl _) _)
  have HE : Hid ((⟨#[35, 98]⟩ : ByteArray) ++ t = wrB ⟨6, t, q, l, c⟩) := Lib.hid (wr6 (x := ⟨6, t, q, l, c⟩) rfl)
  go_enter Tryz.func14, Tryz.ntmps14
  by_cases hs : (wrB ⟨6, t, q, l, c⟩).size ≤ 1048576
  · have SC := Lib.hid (rscan_any (wrB ⟨6, t, q, l, c⟩) hs (w.alloc (Obj.cells #[.int .i64 6, .string t, .bool q, .int .i64 l, .int .i64 c] 37)))
    rw [← HE.out] at SC
    go_wp2_with fail
    refine SC.out.mono ?_
    rintro e w2 ⟨hb2, (⟨L, v, hLs, rfl, htk, hfar⟩ | ⟨E, x0, y0, hbad, hE, rfl⟩)⟩
    · have BX : Hid (Below w.heap.size w w2) := Lib.hid (HBW.out.trans (hb2.mono HBW.out.size))
      have hbk2 : w2.heap[w.heap.size]? = _ := (hb2.block _ (Array.getElem?_eq_some_iff.1 HK.out).1).trans HK.out
      obtain ⟨c0, c1, c2, c3, c4⟩ := blk5 hbk2
      obtain ⟨ao, cap, rfl, hcs⟩ := htk
      have HCS := Lib.hid hcs
      rw [HE.out] at hLs
      clear hcs hbk2 hfar
      by_cases hg : Good ⟨6, t, q, l, c⟩
      · have hLg : L = [⟨6, t, q, 1, 1⟩] := by
          have := scan_of_good hg
          rw [hLs] at this
          injection this
        have HG := Lib.hid hg
        subst hLg
        obtain ⟨b, off, rfl, hlt, hc⟩ := HCS.out (by simp)
        obtain ⟨a0, a1, a2, a3, a4⟩ := TkL.at hc (i := 0) rfl
        rw [Nat.zero_mul, Nat.add_zero] at a0 a1 a2 a3 a4
        clear hc hLs hb2 hg SC
        go_wp2
        go_quiet (fail)
        go_wp2
        go_ret2
        exact ⟨below_drewN BX.out _, .inl ⟨HG.out, by rw [← HE.out]; rfl⟩⟩
      · have HN := Lib.hid hg
        by_cases h1 : L.length = 1
        · obtain ⟨y, rfl⟩ : ∃ y, L = [y] := by
            cases L with
            | nil => simp at h1
            | cons y L => cases L with
              | nil => exact ⟨y, rfl⟩
              | cons z L => simp at h1
          have hne : ¬ (y.k = 6 ∧ y.t = t ∧ y.q = q) := fun ⟨a, b, d⟩ => hg (good_of_scan hs hLs a b d)
          have HNE := Lib.hid hne
          obtain ⟨b, off, rfl, hlt, hc⟩ := HCS.out (by simp)
          obtain ⟨a0, a1, a2, a3, a4⟩ := TkL.at hc (i := 0) rfl
          rw [Nat.zero_mul, Nat.add_zero] at a0 a1 a2 a3 a4
          clear hc hLs hb2 hg hne h1 SC
          obtain ⟨yk, yt, yq, yl, yc⟩ := y
          by_cases n1 : yk = 6
          · subst n1
            by_cases n3 : yt = t
            · have n2 : ¬ yq = q := fun e => HNE.out ⟨rfl, n3, e⟩
              have e2 : (yq != q) = true := bne_iff_ne.2 n2
              have e2' : (yq == q) = false := beq_eq_false_iff_ne.2 n2
              subst n3
              clear n2
              go_wp2
              go_quiet (fail)
              go_wp2
              go_ret2
              exact ⟨below_drewN BX.out _, .inr ⟨HN.out, rfl⟩⟩
            · have n4 : ¬ yt.toList = t.toList := fun e => n3 (by
                rw [ByteArray.toList_eq, ByteArray.toList_eq] at e
                cases yt; cases t; exact congrArg ByteArray.mk (Array.toList_inj.1 e))
              have e3 : (yt.toList == t.toList) = false := beq_eq_false_iff_ne.2 n4
              clear n3
              go_wp2
              go_quiet (fail)
              go_wp2
              go_ret2
              exact ⟨below_drewN BX.out _, .inr ⟨HN.out, rfl⟩⟩
          · have e1 : (yk != 6) = true := bne_iff_ne.2 n1
            clear n1
            go_wp2
            go_quiet (fail)
            go_wp2
            go_ret2
            exact ⟨below_drewN BX.out _, .inr ⟨HN.out, rfl⟩⟩
        · have e1 : ((L.length : Int) != 1) = true := by rw [bne_iff_ne]; omega
          clear hg hLs hb2 h1 SC
          go_wp2
          go_quiet (fail)
          go_wp2
          go_ret2
          exact ⟨below_drewN BX.out _, .inr ⟨HN.out, rfl⟩⟩
    · have HN : Hid (¬ Good ⟨6, t, q, l, c⟩) := Lib.hid (fun h => by rw [HE.out] at hbad; have := scan_of_good h; rw [hbad] at this; cases this)
      have BX : Hid (Below w.heap.size w w2) := Lib.hid (HBW.out.trans (hb2.mono HBW.out.size))
      have hbk2 : w2.heap[w.heap.size]? = _ := (hb2.block _ (Array.getElem?_eq_some_iff.1 HK.out).1).trans HK.out
      obtain ⟨c0, c1, c2, c3, c4⟩ := blk5 hbk2
      have hE0 : ((E : Int) != 0) = true := by rw [bne_iff_ne]; omega
      clear hb2 hbad hE hbk2 SC
      go_wp2
      go_quiet (fail)
      go_wp2
      go_ret2
      exact ⟨below_drewN BX.out _, .inr ⟨HN.out, rfl⟩⟩
  · have SC := Lib.hid (rscan_long (wrB ⟨6, t, q, l, c⟩) (by omega) (w.alloc (Obj.cells #[.int .i64 6, .string t, .bool q, .int .i64 l, .int .i64 c] 37)))
    have HN : Hid (¬ Good ⟨6, t, q, l, c⟩) := Lib.hid (fun ⟨_, _, _, h, _⟩ => hs h)
    rw [← HE.out] at SC
    have BX := HBW
    obtain ⟨c0, c1, c2, c3, c4⟩ := blk5 HK.out
    clear hs
    go_wp2_with (go_at_call 26; refine SC.out.mono ?_; rintro e w2 ⟨rfl, rfl⟩)
    go_quiet (fail)
    go_wp2
    go_ret2
    exact ⟨below_drewN BX.out _, .inr ⟨HN.out, rfl⟩⟩
set_option maxHeartbeats 4000000 in
set_option maxRecDepth 100000 in
theorem rwrite_9 (q : Bool) (t : ByteArray) (l c : Int) (ht : t.size ≤ 1048576) (w : World) :
    Calls Tryz.prog 14 #[.agg #[.int .i64 9, .string t, .bool q, .int .i64 l, .int .i64 c]] w fun e w' => WriteO w w' ⟨9, t, q, l, c⟩ e := by
  have HK : Hid ((w.alloc (Obj.cells #[.int .i64 9, .string t, .bool q, .int .i64 l, .int .i64 c] 37)).heap[w.heap.size]? = some (.cells #[.int .i64 9, .string t, .bool q, .int .i64 l, .int .i64 c] 37 (0, 0))) := Lib.hid (heap_alloc_new w _)
  have HBW : Hid (Below w.heap.size w (w.alloc (Obj.cells #[.int .i64 9, .string t, .bool q, .int .i64 l, .int .i64 c] 37))) := Lib.hid ((Below.refl _ _).alloc (Nat.le_refl _) _)
  have HE : Hid ((⟨#[58]⟩ : ByteArray) ++ t = wrB ⟨9, t, q, l, c⟩) := Lib.hid (wr9 (x := ⟨9, t, q, l, c⟩) rfl)
  go_enter Tryz.func14, Tryz.ntmps14
  by_cases hs : (wrB ⟨9, t, q, l, c⟩).size ≤ 1048576
  · have SC := Lib.hid (rscan_any (wrB ⟨9, t, q, l, c⟩) hs (w.alloc (Obj.cells #[.int .i64 9, .string t, .bool q, .int .i64 l, .int .i64 c] 37)))
    rw [← HE.out] at SC
    go_wp2_with fail
    refine SC.out.mono ?_
    rintro e w2 ⟨hb2, (⟨L, v, hLs, rfl, htk, hfar⟩ | ⟨E, x0, y0, hbad, hE, rfl⟩)⟩
    · have BX : Hid (Below w.heap.size w w2) := Lib.hid (HBW.out.trans (hb2.mono HBW.out.size))
      have hbk2 : w2.heap[w.heap.size]? = _ := (hb2.block _ (Array.getElem?_eq_some_iff.1 HK.out).1).trans HK.out
      obtain ⟨c0, c1, c2, c3, c4⟩ := blk5 hbk2
      obtain ⟨ao, cap, rfl, hcs⟩ := htk
      have HCS := Lib.hid hcs
      rw [HE.out] at hLs
      clear hcs hbk2 hfar
      by_cases hg : Good ⟨9, t, q, l, c⟩
      · have hLg : L = [⟨9, t, q, 1, 1⟩] := by
          have := scan_of_good hg
          rw [hLs] at this
          injection this
        have HG := Lib.hid hg
        subst hLg
        obtain ⟨b, off, rfl, hlt, hc⟩ := HCS.out (by simp)
        obtain ⟨a0, a1, a2, a3, a4⟩ := TkL.at hc (i := 0) rfl
        rw [Nat.zero_mul, Nat.add_zero] at a0 a1 a2 a3 a4
        clear hc hLs hb2 hg SC
        go_wp2
        go_quiet (fail)
        go_wp2
        go_ret2
        exact ⟨below_drewN BX.out _, .inl ⟨HG.out, by rw [← HE.out]; rfl⟩⟩
      · have HN := Lib.hid hg
        by_cases h1 : L.length = 1
        · obtain ⟨y, rfl⟩ : ∃ y, L = [y] := by
            cases L with
            | nil => simp at h1
            | cons y L => cases L with
              | nil => exact ⟨y, rfl⟩
              | cons z L => simp at h1
          have hne : ¬ (y.k = 9 ∧ y.t = t ∧ y.q = q) := fun ⟨a, b, d⟩ => hg (good_of_scan hs hLs a b d)
          have HNE := Lib.hid hne
          obtain ⟨b, off, rfl, hlt, hc⟩ := HCS.out (by simp)
          obtain ⟨a0, a1, a2, a3, a4⟩ := TkL.at hc (i := 0) rfl
          rw [Nat.zero_mul, Nat.add_zero] at a0 a1 a2 a3 a4
          clear hc hLs hb2 hg hne h1 SC
          obtain ⟨yk, yt, yq, yl, yc⟩ := y
          by_cases n1 : yk = 9
          · subst n1
            by_cases n3 : yt = t
            · have n2 : ¬ yq = q := fun e => HNE.out ⟨rfl, n3, e⟩
              have e2 : (yq != q) = true := bne_iff_ne.2 n2
              have e2' : (yq == q) = false := beq_eq_false_iff_ne.2 n2
              subst n3
              clear n2
              go_wp2
              go_quiet (fail)
              go_wp2
              go_ret2
              exact ⟨below_drewN BX.out _, .inr ⟨HN.out, rfl⟩⟩
            · have n4 : ¬ yt.toList = t.toList := fun e => n3 (by
                rw [ByteArray.toList_eq, ByteArray.toList_eq] at e
                cases yt; cases t; exact congrArg ByteArray.mk (Array.toList_inj.1 e))
              have e3 : (yt.toList == t.toList) = false := beq_eq_false_iff_ne.2 n4
              clear n3
              go_wp2
              go_quiet (fail)
              go_wp2
              go_ret2
              exact ⟨below_drewN BX.out _, .inr ⟨HN.out, rfl⟩⟩
          · have e1 : (yk != 9) = true := bne_iff_ne.2 n1
            clear n1
            go_wp2
            go_quiet (fail)
            go_wp2
            go_ret2
            exact ⟨below_drewN BX.out _, .inr ⟨HN.out, rfl⟩⟩
        · have e1 : ((L.length : Int) != 1) = true := by rw [bne_iff_ne]; omega
          clear hg hLs hb2 h1 SC
          go_wp2
          go_quiet (fail)
          go_wp2
          go_ret2
          exact ⟨below_drewN BX.out _, .inr ⟨HN.out, rfl⟩⟩
    · have HN : Hid (¬ Good ⟨9, t, q, l, c⟩) := Lib.hid (fun h => by rw [HE.out] at hbad; have := scan_of_good h; rw [hbad] at this; cases this)
      have BX : Hid (Below w.heap.size w w2) := Lib.hid (HBW.out.trans (hb2.mono HBW.out.size))
      have hbk2 : w2.heap[w.heap.size]? = _ := (hb2.block _ (Array.getElem?_eq_some_iff.1 HK.out).1).trans HK.out
      obtain ⟨c0, c1, c2, c3, c4⟩ := blk5 hbk2
      have hE0 : ((E : Int) != 0) = true := by rw [bne_iff_ne]; omega
      clear hb2 hbad hE hbk2 SC
      go_wp2
      go_quiet (fail)
      go_wp2
      go_ret2
      exact ⟨below_drewN BX.out _, .inr ⟨HN.out, rfl⟩⟩
  · have SC := Lib.hid (rscan_long (wrB ⟨9, t, q, l, c⟩) (by omega) (w.alloc (Obj.cells #[.int .i64 9, .string t, .bool q, .int .i64 l, .int .i64 c] 37)))
    have HN : Hid (¬ Good ⟨9, t, q, l, c⟩) := Lib.hid (fun ⟨_, _, _, h, _⟩ => hs h)
    rw [← HE.out] at SC
    have BX := HBW
    obtain ⟨c0, c1, c2, c3, c4⟩ := blk5 HK.out
    clear hs
    go_wp2_with (go_at_call 26; refine SC.out.mono ?_; rintro e w2 ⟨rfl, rfl⟩)
    go_quiet (fail)
    go_wp2
    go_ret2
    exact ⟨below_drewN BX.out _, .inr ⟨HN.out, rfl⟩⟩
set_option maxHeartbeats 4000000 in
set_option maxRecDepth 100000 in
theorem rwrite_8q  (t : ByteArray) (l c : Int) (ht : t.size ≤ 1048576) (w : World) :
    Calls Tryz.prog 14 #[.agg #[.int .i64 8, .string t, .bool true, .int .i64 l, .int .i64 c]] w fun e w' => WriteO w w' ⟨8, t, true, l, c⟩ e := by
  have HK : Hid ((w.alloc (Obj.cells #[.int .i64 8, .string t, .bool true, .int .i64 l, .int .i64 c] 37)).heap[w.heap.size]? = some (.cells #[.int .i64 8, .string t, .bool true, .int .i64 l, .int .i64 c] 37 (0, 0))) := Lib.hid (heap_alloc_new w _)
  have HBW : Hid (Below w.heap.size w (w.alloc (Obj.cells #[.int .i64 8, .string t, .bool true, .int .i64 l, .int .i64 c] 37))) := Lib.hid ((Below.refl _ _).alloc (Nat.le_refl _) _)
  have HE : Hid ((⟨#[124]⟩ : ByteArray) ++ t ++ ⟨#[124]⟩ = wrB ⟨8, t, true, l, c⟩) := Lib.hid (wr8q (x := ⟨8, t, true, l, c⟩) rfl rfl)
  go_enter Tryz.func14, Tryz.ntmps14
  by_cases hs : (wrB ⟨8, t, true, l, c⟩).size ≤ 1048576
  · have SC := Lib.hid (rscan_any (wrB ⟨8, t, true, l, c⟩) hs (w.alloc (Obj.cells #[.int .i64 8, .string t, .bool true, .int .i64 l, .int .i64 c] 37)))
    rw [← HE.out] at SC
    go_wp2_with fail
    refine SC.out.mono ?_
    rintro e w2 ⟨hb2, (⟨L, v, hLs, rfl, htk, hfar⟩ | ⟨E, x0, y0, hbad, hE, rfl⟩)⟩
    · have BX : Hid (Below w.heap.size w w2) := Lib.hid (HBW.out.trans (hb2.mono HBW.out.size))
      have hbk2 : w2.heap[w.heap.size]? = _ := (hb2.block _ (Array.getElem?_eq_some_iff.1 HK.out).1).trans HK.out
      obtain ⟨c0, c1, c2, c3, c4⟩ := blk5 hbk2
      obtain ⟨ao, cap, rfl, hcs⟩ := htk
      have HCS := Lib.hid hcs
      rw [HE.out] at hLs
      clear hcs hbk2 hfar
      by_cases hg : Good ⟨8, t, true, l, c⟩
      · have hLg : L = [⟨8, t, true, 1, 1⟩] := by
          have := scan_of_good hg
          rw [hLs] at this
          injection this
        have HG := Lib.hid hg
        subst hLg
        obtain ⟨b, off, rfl, hlt, hc⟩ := HCS.out (by simp)
        obtain ⟨a0, a1, a2, a3, a4⟩ := TkL.at hc (i := 0) rfl
        rw [Nat.zero_mul, Nat.add_zero] at a0 a1 a2 a3 a4
        clear hc hLs hb2 hg SC
        go_wp2
        go_quiet (fail)
        go_wp2
        go_ret2
        exact ⟨below_drewN BX.out _, .inl ⟨HG.out, by rw [← HE.out]; rfl⟩⟩
      · have HN := Lib.hid hg
        by_cases h1 : L.length = 1
        · obtain ⟨y, rfl⟩ : ∃ y, L = [y] := by
            cases L with
            | nil => simp at h1
            | cons y L => cases L with
              | nil => exact ⟨y, rfl⟩
              | cons z L => simp at h1
          have hne : ¬ (y.k = 8 ∧ y.t = t ∧ y.q = true) := fun ⟨a, b, d⟩ => hg (good_of_scan hs hLs a b d)
          have HNE := Lib.hid hne
          obtain ⟨b, off, rfl, hlt, hc⟩ := HCS.out (by simp)
          obtain ⟨a0, a1, a2, a3, a4⟩ := TkL.at hc (i := 0) rfl
          rw [Nat.zero_mul, Nat.add_zero] at a0 a1 a2 a3 a4
          clear hc hLs hb2 hg hne h1 SC
          obtain ⟨yk, yt, yq, yl, yc⟩ := y
          by_cases n1 : yk = 8
          · subst n1
            by_cases n3 : yt = t
            · have n2 : ¬ yq = true := fun e => HNE.out ⟨rfl, n3, e⟩
              have e2 : (yq != true) = true := bne_iff_ne.2 n2
              have e2' : (yq == true) = false := beq_eq_false_iff_ne.2 n2
              subst n3
              clear n2
              go_wp2
              go_quiet (fail)
              go_wp2
              go_ret2
              exact ⟨below_drewN BX.out _, .inr ⟨HN.out, rfl⟩⟩
            · have n4 : ¬ yt.toList = t.toList := fun e => n3 (by
                rw [ByteArray.toList_eq, ByteArray.toList_eq] at e
                cases yt; cases t; exact congrArg ByteArray.mk (Array.toList_inj.1 e))
              have e3 : (yt.toList == t.toList) = false := beq_eq_false_iff_ne.2 n4
              clear n3
              go_wp2
              go_quiet (fail)
              go_wp2
              go_ret2
              exact ⟨below_drewN BX.out _, .inr ⟨HN.out, rfl⟩⟩
          · have e1 : (yk != 8) = true := bne_iff_ne.2 n1
            clear n1
            go_wp2
            go_quiet (fail)
            go_wp2
            go_ret2
            exact ⟨below_drewN BX.out _, .inr ⟨HN.out, rfl⟩⟩
        · have e1 : ((L.length : Int) != 1) = true := by rw [bne_iff_ne]; omega
          clear hg hLs hb2 h1 SC
          go_wp2
          go_quiet (fail)
          go_wp2
          go_ret2
          exact ⟨below_drewN BX.out _, .inr ⟨HN.out, rfl⟩⟩
    · have HN : Hid (¬ Good ⟨8, t, true, l, c⟩) := Lib.hid (fun h => by rw [HE.out] at hbad; have := scan_of_good h; rw [hbad] at this; cases this)
      have BX : Hid (Below w.heap.size w w2) := Lib.hid (HBW.out.trans (hb2.mono HBW.out.size))
      have hbk2 : w2.heap[w.heap.size]? = _ := (hb2.block _ (Array.getElem?_eq_some_iff.1 HK.out).1).trans HK.out
      obtain ⟨c0, c1, c2, c3, c4⟩ := blk5 hbk2
      have hE0 : ((E : Int) != 0) = true := by rw [bne_iff_ne]; omega
      clear hb2 hbad hE hbk2 SC
      go_wp2
      go_quiet (fail)
      go_wp2
      go_ret2
      exact ⟨below_drewN BX.out _, .inr ⟨HN.out, rfl⟩⟩
  · have SC := Lib.hid (rscan_long (wrB ⟨8, t, true, l, c⟩) (by omega) (w.alloc (Obj.cells #[.int .i64 8, .string t, .bool true, .int .i64 l, .int .i64 c] 37)))
    have HN : Hid (¬ Good ⟨8, t, true, l, c⟩) := Lib.hid (fun ⟨_, _, _, h, _⟩ => hs h)
    rw [← HE.out] at SC
    have BX := HBW
    obtain ⟨c0, c1, c2, c3, c4⟩ := blk5 HK.out
    clear hs
    go_wp2_with (go_at_call 26; refine SC.out.mono ?_; rintro e w2 ⟨rfl, rfl⟩)
    go_quiet (fail)
    go_wp2
    go_ret2
    exact ⟨below_drewN BX.out _, .inr ⟨HN.out, rfl⟩⟩
set_option maxHeartbeats 4000000 in
set_option maxRecDepth 100000 in
theorem rwrite_8  (t : ByteArray) (l c : Int) (ht : t.size ≤ 1048576) (w : World) :
    Calls Tryz.prog 14 #[.agg #[.int .i64 8, .string t, .bool false, .int .i64 l, .int .i64 c]] w fun e w' => WriteO w w' ⟨8, t, false, l, c⟩ e := by
  have HK : Hid ((w.alloc (Obj.cells #[.int .i64 8, .string t, .bool false, .int .i64 l, .int .i64 c] 37)).heap[w.heap.size]? = some (.cells #[.int .i64 8, .string t, .bool false, .int .i64 l, .int .i64 c] 37 (0, 0))) := Lib.hid (heap_alloc_new w _)
  have HBW : Hid (Below w.heap.size w (w.alloc (Obj.cells #[.int .i64 8, .string t, .bool false, .int .i64 l, .int .i64 c] 37))) := Lib.hid ((Below.refl _ _).alloc (Nat.le_refl _) _)
  have HE : Hid (t = wrB ⟨8, t, false, l, c⟩) := Lib.hid (wrP (x := ⟨8, t, false, l, c⟩) (.inr ⟨rfl, rfl⟩))
  go_enter Tryz.func14, Tryz.ntmps14
  by_cases hs : (wrB ⟨8, t, false, l, c⟩).size ≤ 1048576
  · have SC := Lib.hid (rscan_any (wrB ⟨8, t, false, l, c⟩) hs (w.alloc (Obj.cells #[.int .i64 8, .string t, .bool false, .int .i64 l, .int .i64 c] 37)))
    rw [← HE.out] at SC
    go_wp2_with fail
    refine SC.out.mono ?_
    rintro e w2 ⟨hb2, (⟨L, v, hLs, rfl, htk, hfar⟩ | ⟨E, x0, y0, hbad, hE, rfl⟩)⟩
    · have BX : Hid (Below w.heap.size w w2) := Lib.hid (HBW.out.trans (hb2.mono HBW.out.size))
      have hbk2 : w2.heap[w.heap.size]? = _ := (hb2.block _ (Array.getElem?_eq_some_iff.1 HK.out).1).trans HK.out
      obtain ⟨c0, c1, c2, c3, c4⟩ := blk5 hbk2
      obtain ⟨ao, cap, rfl, hcs⟩ := htk
      have HCS := Lib.hid hcs
      rw [HE.out] at hLs
      clear hcs hbk2 hfar
      by_cases hg : Good ⟨8, t, false, l, c⟩
      · have hLg : L = [⟨8, t, false, 1, 1⟩] := by
          have := scan_of_good hg
          rw [hLs] at this
          injection this
        have HG := Lib.hid hg
        subst hLg
        obtain ⟨b, off, rfl, hlt, hc⟩ := HCS.out (by simp)
        obtain ⟨a0, a1, a2, a3, a4⟩ := TkL.at hc (i := 0) rfl
        rw [Nat.zero_mul, Nat.add_zero] at a0 a1 a2 a3 a4
        clear hc hLs hb2 hg SC
        go_wp2
        go_quiet (fail)
        go_wp2
        go_ret2
        exact ⟨below_drewN BX.out _, .inl ⟨HG.out, by rw [← HE.out]; rfl⟩⟩
      · have HN := Lib.hid hg
        by_cases h1 : L.length = 1
        · obtain ⟨y, rfl⟩ : ∃ y, L = [y] := by
            cases L with
            | nil => simp at h1
            | cons y L => cases L with
              | nil => exact ⟨y, rfl⟩
              | cons z L => simp at h1
          have hne : ¬ (y.k = 8 ∧ y.t = t ∧ y.q = false) := fun ⟨a, b, d⟩ => hg (good_of_scan hs hLs a b d)
          have HNE := Lib.hid hne
          obtain ⟨b, off, rfl, hlt, hc⟩ := HCS.out (by simp)
          obtain ⟨a0, a1, a2, a3, a4⟩ := TkL.at hc (i := 0) rfl
          rw [Nat.zero_mul, Nat.add_zero] at a0 a1 a2 a3 a4
          clear hc hLs hb2 hg hne h1 SC
          obtain ⟨yk, yt, yq, yl, yc⟩ := y
          by_cases n1 : yk = 8
          · subst n1
            by_cases n3 : yt = t
            · have n2 : ¬ yq = false := fun e => HNE.out ⟨rfl, n3, e⟩
              have e2 : (yq != false) = true := bne_iff_ne.2 n2
              have e2' : (yq == false) = false := beq_eq_false_iff_ne.2 n2
              subst n3
              clear n2
              go_wp2
              go_quiet (fail)
              go_wp2
              go_ret2
              exact ⟨below_drewN BX.out _, .inr ⟨HN.out, rfl⟩⟩
            · have n4 : ¬ yt.toList = t.toList := fun e => n3 (by
                rw [ByteArray.toList_eq, ByteArray.toList_eq] at e
                cases yt; cases t; exact congrArg ByteArray.mk (Array.toList_inj.1 e))
              have e3 : (yt.toList == t.toList) = false := beq_eq_false_iff_ne.2 n4
              clear n3
              go_wp2
              go_quiet (fail)
              go_wp2
              go_ret2
              exact ⟨below_drewN BX.out _, .inr ⟨HN.out, rfl⟩⟩
          · have e1 : (yk != 8) = true := bne_iff_ne.2 n1
            clear n1
            go_wp2
            go_quiet (fail)
            go_wp2
            go_ret2
            exact ⟨below_drewN BX.out _, .inr ⟨HN.out, rfl⟩⟩
        · have e1 : ((L.length : Int) != 1) = true := by rw [bne_iff_ne]; omega
          clear hg hLs hb2 h1 SC
          go_wp2
          go_quiet (fail)
          go_wp2
          go_ret2
          exact ⟨below_drewN BX.out _, .inr ⟨HN.out, rfl⟩⟩
    · have HN : Hid (¬ Good ⟨8, t, false, l, c⟩) := Lib.hid (fun h => by rw [HE.out] at hbad; have := scan_of_good h; rw [hbad] at this; cases this)
      have BX : Hid (Below w.heap.size w w2) := Lib.hid (HBW.out.trans (hb2.mono HBW.out.size))
      have hbk2 : w2.heap[w.heap.size]? = _ := (hb2.block _ (Array.getElem?_eq_some_iff.1 HK.out).1).trans HK.out
      obtain ⟨c0, c1, c2, c3, c4⟩ := blk5 hbk2
      have hE0 : ((E : Int) != 0) = true := by rw [bne_iff_ne]; omega
      clear hb2 hbad hE hbk2 SC
      go_wp2
      go_quiet (fail)
      go_wp2
      go_ret2
      exact ⟨below_drewN BX.out _, .inr ⟨HN.out, rfl⟩⟩
  · have SC := Lib.hid (rscan_long (wrB ⟨8, t, false, l, c⟩) (by omega) (w.alloc (Obj.cells #[.int .i64 8, .string t, .bool false, .int .i64 l, .int .i64 c] 37)))
    have HN : Hid (¬ Good ⟨8, t, false, l, c⟩) := Lib.hid (fun ⟨_, _, _, h, _⟩ => hs h)
    rw [← HE.out] at SC
    have BX := HBW
    obtain ⟨c0, c1, c2, c3, c4⟩ := blk5 HK.out
    clear hs
    go_wp2_with (go_at_call 26; refine SC.out.mono ?_; rintro e w2 ⟨rfl, rfl⟩)
    go_quiet (fail)
    go_wp2
    go_ret2
    exact ⟨below_drewN BX.out _, .inr ⟨HN.out, rfl⟩⟩
set_option maxHeartbeats 4000000 in
set_option maxRecDepth 100000 in
theorem rwrite_7 (q : Bool) (t : ByteArray) (l c : Int) (ht : t.size ≤ 1048576) (w : World) :
    Calls Tryz.prog 14 #[.agg #[.int .i64 7, .string t, .bool q, .int .i64 l, .int .i64 c]] w fun e w' => WriteO w w' ⟨7, t, q, l, c⟩ e := by
  have HK : Hid ((w.alloc (Obj.cells #[.int .i64 7, .string t, .bool q, .int .i64 l, .int .i64 c] 37)).heap[w.heap.size]? = some (.cells #[.int .i64 7, .string t, .bool q, .int .i64 l, .int .i64 c] 37 (0, 0))) := Lib.hid (heap_alloc_new w _)
  have HBW : Hid (Below w.heap.size w (w.alloc (Obj.cells #[.int .i64 7, .string t, .bool q, .int .i64 l, .int .i64 c] 37))) := Lib.hid ((Below.refl _ _).alloc (Nat.le_refl _) _)
  have HE : Hid (qtB t = wrB ⟨7, t, q, l, c⟩) := Lib.hid (wr7 (x := ⟨7, t, q, l, c⟩) rfl)
  have RS := Lib.hid (rstring_any t ht (w.alloc (Obj.cells #[.int .i64 7, .string t, .bool q, .int .i64 l, .int .i64 c] 37)))
  go_enter Tryz.func14, Tryz.ntmps14
  go_wp2_with fail
  refine RS.out.mono ?_
  rintro e w1 ⟨rfl, (⟨hin, rfl⟩ | ⟨hin, rfl⟩)⟩
  · clear hin RS
    by_cases hs : (wrB ⟨7, t, q, l, c⟩).size ≤ 1048576
    · have SC := Lib.hid (rscan_any (wrB ⟨7, t, q, l, c⟩) hs (w.alloc (Obj.cells #[.int .i64 7, .string t, .bool q, .int .i64 l, .int .i64 c] 37)))
      rw [← HE.out] at SC
      go_wp2_with fail
      refine SC.out.mono ?_
      rintro e w2 ⟨hb2, (⟨L, v, hLs, rfl, htk, hfar⟩ | ⟨E, x0, y0, hbad, hE, rfl⟩)⟩
      · have BX : Hid (Below w.heap.size w w2) := Lib.hid (HBW.out.trans (hb2.mono HBW.out.size))
        have hbk2 : w2.heap[w.heap.size]? = _ := (hb2.block _ (Array.getElem?_eq_some_iff.1 HK.out).1).trans HK.out
        obtain ⟨c0, c1, c2, c3, c4⟩ := blk5 hbk2
        obtain ⟨ao, cap, rfl, hcs⟩ := htk
        have HCS := Lib.hid hcs
        rw [HE.out] at hLs
        clear hcs hbk2 hfar
        by_cases hg : Good ⟨7, t, q, l, c⟩
        · have hLg : L = [⟨7, t, q, 1, 1⟩] := by
            have := scan_of_good hg
            rw [hLs] at this
            injection this
          have HG := Lib.hid hg
          subst hLg
          obtain ⟨b, off, rfl, hlt, hc⟩ := HCS.out (by simp)
          obtain ⟨a0, a1, a2, a3, a4⟩ := TkL.at hc (i := 0) rfl
          rw [Nat.zero_mul, Nat.add_zero] at a0 a1 a2 a3 a4
          clear hc hLs hb2 hg SC
          go_wp2
          go_quiet (fail)
          go_wp2
          go_ret2
          exact ⟨below_drewN BX.out _, .inl ⟨HG.out, by rw [← HE.out]; rfl⟩⟩
        · have HN := Lib.hid hg
          by_cases h1 : L.length = 1
          · obtain ⟨y, rfl⟩ : ∃ y, L = [y] := by
              cases L with
              | nil => simp at h1
              | cons y L => cases L with
                | nil => exact ⟨y, rfl⟩
                | cons z L => simp at h1
            have hne : ¬ (y.k = 7 ∧ y.t = t ∧ y.q = q) := fun ⟨a, b, d⟩ => hg (good_of_scan hs hLs a b d)
            have HNE := Lib.hid hne
            obtain ⟨b, off, rfl, hlt, hc⟩ := HCS.out (by simp)
            obtain ⟨a0, a1, a2, a3, a4⟩ := TkL.at hc (i := 0) rfl
            rw [Nat.zero_mul, Nat.add_zero] at a0 a1 a2 a3 a4
            clear hc hLs hb2 hg hne h1 SC
            obtain ⟨yk, yt, yq, yl, yc⟩ := y
            by_cases n1 : yk = 7
            · subst n1
              by_cases n3 : yt = t
              · have n2 : ¬ yq = q := fun e => HNE.out ⟨rfl, n3, e⟩
                have e2 : (yq != q) = true := bne_iff_ne.2 n2
                have e2' : (yq == q) = false := beq_eq_false_iff_ne.2 n2
                subst n3
                clear n2
                go_wp2
                go_quiet (fail)
                go_wp2
                go_ret2
                exact ⟨below_drewN BX.out _, .inr ⟨HN.out, rfl⟩⟩
              · have n4 : ¬ yt.toList = t.toList := fun e => n3 (by
                  rw [ByteArray.toList_eq, ByteArray.toList_eq] at e
                  cases yt; cases t; exact congrArg ByteArray.mk (Array.toList_inj.1 e))
                have e3 : (yt.toList == t.toList) = false := beq_eq_false_iff_ne.2 n4
                clear n3
                go_wp2
                go_quiet (fail)
                go_wp2
                go_ret2
                exact ⟨below_drewN BX.out _, .inr ⟨HN.out, rfl⟩⟩
            · have e1 : (yk != 7) = true := bne_iff_ne.2 n1
              clear n1
              go_wp2
              go_quiet (fail)
              go_wp2
              go_ret2
              exact ⟨below_drewN BX.out _, .inr ⟨HN.out, rfl⟩⟩
          · have e1 : ((L.length : Int) != 1) = true := by rw [bne_iff_ne]; omega
            clear hg hLs hb2 h1 SC
            go_wp2
            go_quiet (fail)
            go_wp2
            go_ret2
            exact ⟨below_drewN BX.out _, .inr ⟨HN.out, rfl⟩⟩
      · have HN : Hid (¬ Good ⟨7, t, q, l, c⟩) := Lib.hid (fun h => by rw [HE.out] at hbad; have := scan_of_good h; rw [hbad] at this; cases this)
        have BX : Hid (Below w.heap.size w w2) := Lib.hid (HBW.out.trans (hb2.mono HBW.out.size))
        have hbk2 : w2.heap[w.heap.size]? = _ := (hb2.block _ (Array.getElem?_eq_some_iff.1 HK.out).1).trans HK.out
        obtain ⟨c0, c1, c2, c3, c4⟩ := blk5 hbk2
        have hE0 : ((E : Int) != 0) = true := by rw [bne_iff_ne]; omega
        clear hb2 hbad hE hbk2 SC
        go_wp2
        go_quiet (fail)
        go_wp2
        go_ret2
        exact ⟨below_drewN BX.out _, .inr ⟨HN.out, rfl⟩⟩
    · have SC := Lib.hid (rscan_long (wrB ⟨7, t, q, l, c⟩) (by omega) (w.alloc (Obj.cells #[.int .i64 7, .string t, .bool q, .int .i64 l, .int .i64 c] 37)))
      have HN : Hid (¬ Good ⟨7, t, q, l, c⟩) := Lib.hid (fun ⟨_, _, _, h, _⟩ => hs h)
      rw [← HE.out] at SC
      have BX := HBW
      obtain ⟨c0, c1, c2, c3, c4⟩ := blk5 HK.out
      clear hs
      go_wp2_with (go_at_call 26; refine SC.out.mono ?_; rintro e w2 ⟨rfl, rfl⟩)
      go_quiet (fail)
      go_wp2
      go_ret2
      exact ⟨below_drewN BX.out _, .inr ⟨HN.out, rfl⟩⟩
  · have HN : Hid (¬ Good ⟨7, t, q, l, c⟩) := Lib.hid (good_in rfl hin)
    have BX := HBW
    clear hin RS
    go_wp2
    go_ret2
    exact ⟨BX.out, .inr ⟨HN.out, rfl⟩⟩
theorem no_good0 {x : Tk} (h : x.k ≤ 0 ∨ 10 ≤ x.k) : ¬ Good x := by
  rintro ⟨_, _, h1, _, _⟩
  rw [← wr0 h] at h1
  exact absurd h1 (by decide)
theorem scan_nil : scanF ⟨#[]⟩ 0 = .ok [] := by
  rw [scanF, skipF]; rfl
set_option maxHeartbeats 4000000 in
set_option maxRecDepth 100000 in
theorem rwrite_0 (k : Int) (q : Bool) (t : ByteArray) (l c : Int) (ht : t.size ≤ 1048576) (w : World) (hk : k ≤ 0 ∨ 10 ≤ k) :
    Calls Tryz.prog 14 #[.agg #[.int .i64 k, .string t, .bool q, .int .i64 l, .int .i64 c]] w fun e w' => WriteO w w' ⟨k, t, q, l, c⟩ e := by
  have HK : Hid ((w.alloc (Obj.cells #[.int .i64 k, .string t, .bool q, .int .i64 l, .int .i64 c] 37)).heap[w.heap.size]? = some (.cells #[.int .i64 k, .string t, .bool q, .int .i64 l, .int .i64 c] 37 (0, 0))) := Lib.hid (heap_alloc_new w _)
  have HBW : Hid (Below w.heap.size w (w.alloc (Obj.cells #[.int .i64 k, .string t, .bool q, .int .i64 l, .int .i64 c] 37))) := Lib.hid ((Below.refl _ _).alloc (Nat.le_refl _) _)
  have HN : Hid (¬ Good ⟨k, t, q, l, c⟩) := Lib.hid (no_good0 hk)
  have SC := Lib.hid (rscan_any ⟨#[]⟩ (by decide) (w.alloc (Obj.cells #[.int .i64 k, .string t, .bool q, .int .i64 l, .int .i64 c] 37)))
  rw [scan_nil] at SC
  have e1 : (k == 1) = false := beq_eq_false_iff_ne.2 (by omega)
  have e2 : (k == 2) = false := beq_eq_false_iff_ne.2 (by omega)
  have e3 : (k == 3) = false := beq_eq_false_iff_ne.2 (by omega)
  have e4 : (k == 4) = false := beq_eq_false_iff_ne.2 (by omega)
  have e5 : (k == 5) = false := beq_eq_false_iff_ne.2 (by omega)
  have e6 : (k == 6) = false := beq_eq_false_iff_ne.2 (by omega)
  have e7 : (k == 7) = false := beq_eq_false_iff_ne.2 (by omega)
  have e8 : (k == 8) = false := beq_eq_false_iff_ne.2 (by omega)
  have e9 : (k == 9) = false := beq_eq_false_iff_ne.2 (by omega)
  clear hk
  go_enter Tryz.func14, Tryz.ntmps14
  go_wp2_with fail
  refine SC.out.mono ?_
  rintro e w2 ⟨hb2, (⟨L, v, hLs, rfl, htk, hfar⟩ | ⟨E, x0, y0, hbad, hE, rfl⟩)⟩
  · have BX : Hid (Below w.heap.size w w2) := Lib.hid (HBW.out.trans (hb2.mono HBW.out.size))
    have hbk2 : w2.heap[w.heap.size]? = _ := (hb2.block _ (Array.getElem?_eq_some_iff.1 HK.out).1).trans HK.out
    obtain ⟨c0, c1, c2, c3, c4⟩ := blk5 hbk2
    obtain ⟨ao, cap, rfl, hcs⟩ := htk
    injection hLs with hLs
    subst hLs
    clear hcs hbk2 hfar hb2 SC
    go_wp2
    go_quiet (fail)
    go_wp2
    go_ret2
    exact ⟨below_drewN BX.out _, .inr ⟨HN.out, rfl⟩⟩
  · cases hbad
theorem rwrite_any (x : Tk) (ht : x.t.size ≤ 1048576) (w : World) : Calls Tryz.prog 14 #[tkV x] w fun e w' => WriteO w w' x e := by
  obtain ⟨k, t, q, l, c⟩ := x
  show Calls Tryz.prog 14 #[.agg #[.int .i64 k, .string t, .bool q, .int .i64 l, .int .i64 c]] w _
  by_cases h0 : k ≤ 0 ∨ 10 ≤ k
  · exact rwrite_0 k q t l c ht w h0
  · rcases (show k = 1 ∨ k = 2 ∨ k = 3 ∨ k = 4 ∨ k = 5 ∨ k = 6 ∨ k = 7 ∨ k = 8 ∨ k = 9 by omega) with rfl | rfl | rfl | rfl | rfl | rfl | rfl | rfl | rfl
    · exact rwrite_1 q t l c ht w
    · exact rwrite_2 q t l c ht w
    · exact rwrite_3 q t l c ht w
    · exact rwrite_4 q t l c ht w
    · exact rwrite_5 q t l c ht w
    · exact rwrite_6 q t l c ht w
    · exact rwrite_7 q t l c ht w
    · cases q
      · exact rwrite_8 t l c ht w
      · exact rwrite_8q t l c ht w
    · exact rwrite_9 q t l c ht w
end Go.Proofs.YtpkdiciinhjfjaaGreatDoor
