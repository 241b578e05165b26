/- LexisWrites: package lexis's String and Symbol; the walk. -/
import Derived.Test.YtlgcmpiobglbbaaDoorKG
import Derived.Test.YtlgcmpiobglbbaaDoorNK
import Derived.Test.YtlgcmpiobglbbaaDoorSB
set_option linter.unusedVariables false
set_option linter.unusedSimpArgs false
namespace Go.Proofs.YtlgcmpiobglbbaaDoor
open Go.RowKit Mth

def AiR (s : ByteArray) (i : Value) : Prop := ∃ k : Nat, k ≤ s.size ∧ i = .int .i64 (k : Int) ∧ allP s bInner 0 k
theorem allIn_iff {s : ByteArray} : allP s bInner 0 s.size ↔ allIn s.data.toList := by
  have hl := len_data s
  constructor
  · intro h c hc
    obtain ⟨j, hj, e⟩ := List.mem_iff_getElem.1 hc
    have h2 := cb_list s.data.toList j hj
    rw [str_self, List.getD_eq_getElem?_getD, List.getElem?_eq_getElem hj, Option.getD_some, e] at h2
    rw [← h2]; exact h j (by omega) (by omega)
  · intro h i _ hi
    have hj : i < s.data.toList.length := by omega
    have h2 := cb_list s.data.toList i hj
    rw [str_self, List.getD_eq_getElem?_getD, List.getElem?_eq_getElem hj, Option.getD_some] at h2
    rw [h2]; exact h _ (List.getElem_mem hj)
/-- the answer of String, of the program -/
def StrP (w w' : World) (t : ByteArray) (e : Ending) : Prop :=
  Below w.heap.size w w' ∧ ((allIn t.data.toList ∧ e = .returned (.tuple #[.string (qtB t), .int .i64 0])) ∨ (¬ allIn t.data.toList ∧ e = .returned (.tuple #[.string ⟨#[]⟩, .int .i64 60])))
set_option maxHeartbeats 2000000 in
set_option maxRecDepth 100000 in
theorem string_any (t : ByteArray) (ht : t.size ≤ 1048576) (w : World) (hL : LexW w) : Calls Tryd.prog 17 #[.string t] w fun e w' => StrP w w' t e := by
  have IQ := Lib.hid (inQuotes_any t (by omega) w hL)
  clear hL
  go_enter Tryd.func17, Tryd.ntmps17
  go_wp2
  go_loop [4, 7] (fun _ i => AiR t i) (fun _ i => t.size - (intOf i).toNat)
  case atStart => exact ⟨0, by omega, rfl, fun j _ hj => by omega⟩
  case round =>
    obtain ⟨k, hk, rfl, hall⟩ := hrel
    have HA := Lib.hid hall
    clear hall
    by_cases hlt : k < t.size
    · have hbk := cb_at hlt
      have IT : Hid (∀ W, Calls Tryd.prog 30 #[.int .u8 ((cb t k : Nat) : Int)] W fun e w' => e = .returned (.bool (bInner (cb t k))) ∧ W = w') := Lib.hid (fun W => inText_any _ (cb_lt t k) W)
      rcases Bool.eq_false_or_eq_true (bInner (cb t k)) with hb | hb
      · have HS := Lib.hid (all_step HA.out hb)
        rw [hb] at IT
        clear hb
        go_wp2_with (go_at_call 30; refine (IT.out _).mono ?_; rintro e w1 ⟨rfl, rfl⟩)
        go_round
        case rel => exact ⟨k + 1, by omega, by go_num, HS.out⟩
        case measure => simp [intOf]; omega
      · have HN : Hid (¬ allIn t.data.toList) := Lib.hid (fun h => by have := allIn_iff.2 h k (by omega) hlt; rw [hb] at this; cases this)
        rw [hb] at IT
        clear hb
        go_wp2_with (go_at_call 30; refine (IT.out _).mono ?_; rintro e w1 ⟨rfl, rfl⟩)
        go_ret2
        exact ⟨Below.refl _ _, .inr ⟨HN.out, rfl⟩⟩
    · obtain rfl : k = t.size := by omega
      have HY := Lib.hid (allIn_iff.1 HA.out)
      go_wp2_with (go_at_call 31; refine IQ.out.mono ?_; rintro e w1 ⟨rfl, hb1⟩; have HB1 := Lib.hid hb1; clear hb1)
      go_ret2
      exact ⟨HB1.out, .inl ⟨HY.out, rfl⟩⟩
theorem symbol_any (s : ByteArray) (hs : s.size ≤ 1048576) (w : World) : Calls Tryd.prog 19 #[.string s] w fun e w' => e = .returned (.string (quoB s)) ∧ w = w' := by
  have Q := Lib.hid (quoteS_any s hs w)
  go_enter Tryd.func19, Tryd.ntmps19
  go_wp2_with (go_at_call 33; refine Q.out.mono ?_; rintro e w1 ⟨rfl, rfl⟩)
  go_ret
  exact ⟨rfl, rfl⟩
set_option maxHeartbeats 4000000 in
set_option maxRecDepth 100000 in
theorem writes_walk (w : World) (x : Tk) (s : ByteArray) (ht : x.t.size ≤ 1048576) (hs : s.size ≤ 1048576) (hL : LexW w) : Calls Tryd.prog 4 #[tkV x, .string s] w fun e w' => e = .returned (.bool true) ∧ Below w.heap.size w w' := by
  have HL := Lib.hid hL
  have O := Lib.hid (heap_alloc_new w (Obj.cells #[.int .i64 x.k, .string x.t, .bool x.q, .int .i64 x.l, .int .i64 x.c] 33))
  have BA : Hid (Below w.heap.size w (w.alloc (Obj.cells #[.int .i64 x.k, .string x.t, .bool x.q, .int .i64 x.l, .int .i64 x.c] 33))) := Lib.hid ((Below.refl _ _).alloc (Nat.le_refl _) _)
  have HLA := Lib.hid (hL.below BA.out)
  have WR := Lib.hid (write_any x ht _ HLA.out)
  have HC : Hid (∀ W, Below (w.alloc (Obj.cells #[.int .i64 x.k, .string x.t, .bool x.q, .int .i64 x.l, .int .i64 x.c] 33)).heap.size (w.alloc (Obj.cells #[.int .i64 x.k, .string x.t, .bool x.q, .int .i64 x.l, .int .i64 x.c] 33)) W →
      LexW W ∧ Below w.heap.size w W ∧ W.heap[w.heap.size]? = some (.cells #[.int .i64 x.k, .string x.t, .bool x.q, .int .i64 x.l, .int .i64 x.c] 33 (0, 0))) := Lib.hid (fun W hW =>
    ⟨HLA.out.below hW, BA.out.trans (hW.mono (by simp)), (hW.block _ (by simp)).trans O.out⟩)
  have H0 : Hid ((w.alloc (Obj.cells #[.int .i64 x.k, .string x.t, .bool x.q, .int .i64 x.l, .int .i64 x.c] 33)).heap.size = w.heap.size + 1) := Lib.hid (by simp)
  obtain ⟨b0, b1, b2, b3, b4⟩ := blk5 O.out
  clear hL
  unfold tkV at WR ⊢
  go_enter Tryd.func4, Tryd.ntmps4
  go_wp2_with fail
  refine WR.out.mono ?_
  rintro e w1 ⟨hb1, hr1⟩
  obtain ⟨HL1, HB1, HK1⟩ : Hid (LexW w1) ∧ Hid (Below w.heap.size w w1) ∧ Hid _ := ⟨Lib.hid (HC.out _ hb1).1, Lib.hid (HC.out _ hb1).2.1, Lib.hid (HC.out _ hb1).2.2⟩
  clear hb1 b0 b1 b2 b3 b4
  obtain ⟨b0, b1, b2, b3, b4⟩ := blk5 HK1.out
  have RW := Lib.hid (rwrite_any x ht w1)
  unfold tkV at RW
  have HEX : Hid (∀ W, Below w1.heap.size w1 W → LexW W ∧ Below w.heap.size w W) := Lib.hid (fun W hW => ⟨HL1.out.below hW, HB1.out.trans (hW.mono HB1.out.size)⟩)
  obtain ⟨X, E, rfl, HG⟩ : ∃ (X : ByteArray) (E : Int), e = .returned (.tuple #[.string X, .int .i64 E]) ∧ Hid ((Good x ∧ X = wrB x ∧ E = 0) ∨ (¬ Good x ∧ X = ⟨#[]⟩ ∧ E = 73)) := by
    rcases hr1 with ⟨hg, rfl⟩ | ⟨hg, rfl⟩
    · exact ⟨_, _, rfl, Lib.hid (.inl ⟨hg, rfl, rfl⟩)⟩
    · exact ⟨_, _, rfl, Lib.hid (.inr ⟨hg, rfl, rfl⟩)⟩
  go_wp2_with fail
  refine RW.out.mono ?_
  rintro e w2 ⟨hb2, hr2⟩
  obtain rfl : e = .returned (.tuple #[.string X, .int .i64 E]) := by
    rcases hr2 with ⟨hg, rfl⟩ | ⟨hg, rfl⟩ <;> rcases HG.out with ⟨hg', rfl, rfl⟩ | ⟨hg', rfl, rfl⟩ <;> first | rfl | exact absurd hg hg' | exact absurd hg' hg
  have HB2 := Lib.hid hb2
  have ST := Lib.hid (string_any s hs w2 (HEX.out _ hb2).1)
  clear hb2 hr2 b0 b1 b2 b3 b4 HG
  go_wp2_with fail
  refine ST.out.mono ?_
  rintro e w3 ⟨hb3, hr3⟩
  have HB3 : Hid (Below w1.heap.size w1 w3) := Lib.hid (HB2.out.trans (hb3.mono HB2.out.size))
  have RS := Lib.hid (rstring_any s hs w3)
  have SY := Lib.hid (symbol_any s hs w3)
  have QR := Lib.hid (quoteR_any s hs w3)
  have AW : Hid (∀ w4, Below w3.heap.size w3 w4 → Calls Tryd.prog 14 #[] w4 fun e w' => e = .returned (.bool true) ∧ Below w.heap.size w w') := Lib.hid (fun w4 h4 => (awake_any w4 (HEX.out _ (HB3.out.trans (h4.mono HB3.out.size))).1).mono (fun e w' h => ⟨h.1, by
    have h5 := (HEX.out _ (HB3.out.trans (h4.mono HB3.out.size))).2
    exact h5.trans (h.2.mono h5.size)⟩))
  obtain ⟨Y, F, rfl, HG⟩ : ∃ (Y : ByteArray) (F : Int), e = .returned (.tuple #[.string Y, .int .i64 F]) ∧ Hid ((allIn s.data.toList ∧ Y = qtB s ∧ F = 0) ∨ (¬ allIn s.data.toList ∧ Y = ⟨#[]⟩ ∧ F = 60)) := by
    rcases hr3 with ⟨hg, rfl⟩ | ⟨hg, rfl⟩
    · exact ⟨_, _, rfl, Lib.hid (.inl ⟨hg, rfl, rfl⟩)⟩
    · exact ⟨_, _, rfl, Lib.hid (.inr ⟨hg, rfl, rfl⟩)⟩
  clear hb3
  go_wp2_with fail
  refine RS.out.mono ?_
  rintro e w4 ⟨rfl, hr4⟩
  obtain rfl : e = .returned (.tuple #[.string Y, .int .i64 F]) := by
    rcases hr4 with ⟨hg, rfl⟩ | ⟨hg, rfl⟩ <;> rcases HG.out with ⟨hg', rfl, rfl⟩ | ⟨hg', rfl, rfl⟩ <;> first | rfl | exact absurd hg hg' | exact absurd hg' hg
  clear hr4 HG
  generalize quoB s = Q at *
  go_wp2_with fail
  refine SY.out.mono ?_
  rintro e w5 ⟨rfl, rfl⟩
  go_wp2_with fail
  refine QR.out.mono ?_
  rintro e w6 ⟨rfl, hb6⟩
  have AW6 := Lib.hid (AW.out _ hb6)
  clear hb6
  go_wp2_with fail
  refine AW6.out.mono ?_
  rintro e w7 ⟨rfl, hb7⟩
  have HB7 := Lib.hid hb7
  clear hb7
  go_wp2
  go_ret
  exact ⟨rfl, HB7.out⟩
end Go.Proofs.YtlgcmpiobglbbaaDoor
