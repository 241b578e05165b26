/- KM KA KB KC KD KE KN. -/
import Derived.Test.YtpkdiciinhjfjaaDoorLG2
import Derived.Test.YtpkdiciinhjfjaaDoorLG4
import Derived.Test.YtpkdiciinhjfjaaDoorNG1
import Derived.Lib.AppendStr
set_option linter.unusedVariables false
set_option linter.unusedSimpArgs false
/- lexis: what is written is read as the token, in plain mathematics. -/
namespace Go.Proofs.YtpkdiciinhjfjaaDoor
open Go.RowKit Mth

theorem shape_first {s : ByteArray} {p k n : Nat} {t : ByteArray} {q : Bool} (hp : p < s.size) (h : Shape s p k t q n) : bBlank (cb s p) = false ∧ cb s p ≠ 59 := by
  have key : ∀ c : Nat, (c = 40 ∨ c = 41 ∨ bDig c = true ∨ c = 35 ∨ c = 34 ∨ c = 124 ∨ c = 58 ∨ bSimple c = true) → bBlank c = false ∧ c ≠ 59 := by
    intro c hc
    have h2 : bSimple c = true → c ≠ 9 ∧ c ≠ 10 ∧ c ≠ 13 ∧ c ≠ 32 ∧ c ≠ 59 := fun h => by rw [bSimple_iff, bMore_or] at h; omega
    have h3 : bDig c = true → 48 ≤ c ∧ c ≤ 57 := fun h => bDig_iff.1 h
    have h4 : c ≠ 9 ∧ c ≠ 10 ∧ c ≠ 13 ∧ c ≠ 32 ∧ c ≠ 59 := by
      rcases hc with h | h | h | h | h | h | h | h
      · omega
      · omega
      · have := h3 h; omega
      · omega
      · omega
      · omega
      · omega
      · exact h2 h
    exact ⟨by rw [← Bool.not_eq_true, bBlank_iff]; omega, h4.2.2.2.2⟩
  refine key _ ?_
  cases h with
  | opn h => exact .inl h
  | cls h => exact .inr (.inl h)
  | num q h1 h2 h3 => exact .inr (.inr (.inl (h1.2.1 p (Nat.le_refl _) h1.1)))
  | dec i q h1 h2 h3 h4 h5 h6 => exact .inr (.inr (.inl (h1.2.1 p (Nat.le_refl _) h1.1)))
  | hex q h1 h2 h3 h4 h5 h6 => exact .inr (.inr (.inr (.inl h1)))
  | bin q h1 h2 h3 h4 h5 h6 => exact .inr (.inr (.inr (.inl h1)))
  | str t n h1 h2 => exact .inr (.inr (.inr (.inr (.inl h1))))
  | bar t n h1 h2 => exact .inr (.inr (.inr (.inr (.inr (.inl h1)))))
  | key q h1 h2 h3 h4 h5 => exact .inr (.inr (.inr (.inr (.inr (.inr (.inl h1))))))
  | wrd q h1 h2 h3 h4 h5 => exact .inr (.inr (.inr (.inr (.inr (.inr (.inr (h2 p (Nat.le_refl _) h3)))))))
/-- the bytes of a token are those with which it is written (but a hexadecimal's letters) -/
theorem shape_wr {s : ByteArray} {p k n : Nat} {t : ByteArray} {q : Bool} (h : Shape s p k t q n) (hp : p < s.size) : n = p + (wrL (k : Int) t.data.toList q).length ∧ (k ≠ 5 → Byt s p (wrL (k : Int) t.data.toList q)) := by
  have hlt := shape_lt hp h
  cases h with
  | opn h => exact ⟨rfl, fun _ => ⟨h, True.intro⟩⟩
  | cls h => exact ⟨rfl, fun _ => ⟨h, True.intro⟩⟩
  | num q h1 h2 h3 =>
    obtain ⟨b1, b2⟩ := byt_of_ext (s := s) (a := p) (b := n) rfl (by omega) hlt.2
    exact ⟨by show n = p + _; rw [show wrL ((3 : Nat) : Int) (s.extract p n).data.toList false = (s.extract p n).data.toList from rfl, b2]; omega, fun _ => b1⟩
  | dec i q h1 h2 h3 h4 h5 h6 =>
    obtain ⟨b1, b2⟩ := byt_of_ext (s := s) (a := p) (b := n) rfl (by omega) hlt.2
    exact ⟨by show n = p + _; rw [show wrL ((4 : Nat) : Int) (s.extract p n).data.toList false = (s.extract p n).data.toList from rfl, b2]; omega, fun _ => b1⟩
  | hex q h1 h2 h3 h4 h5 h6 =>
    obtain ⟨b1, b2⟩ := byt_of_ext (s := s) (a := p + 2) (b := n) rfl (by omega) hlt.2
    refine ⟨?_, fun h => absurd rfl h⟩
    show n = p + (35 :: 120 :: (lower (s.extract (p + 2) n).data.toList).toArray.toList).length
    rw [List.length_cons, List.length_cons, List.toList_toArray, lower, List.length_map, b2]; omega
  | bin q h1 h2 h3 h4 h5 h6 =>
    obtain ⟨b1, b2⟩ := byt_of_ext (s := s) (a := p + 2) (b := n) rfl (by omega) hlt.2
    refine ⟨?_, fun _ => ⟨h1, h2, b1⟩⟩
    show n = p + (35 :: 98 :: (s.extract (p + 2) n).data.toList).length
    rw [List.length_cons, List.length_cons, b2]; omega
  | str t n h1 h2 =>
    obtain ⟨u, g1, g2, g3, g4, g5, g6, g7⟩ := qu_raw s.size (by omega) h2
    have e : t.data.toList = u := by rw [g1]; exact congrArg (fun x : ByteArray => x.data.toList) (ByteArray.empty_append (b := ⟨u.toArray⟩))
    rw [e]
    refine ⟨?_, fun _ => ⟨h1, byt_app.2 ⟨g2, g5, True.intro⟩⟩⟩
    show n = p + (34 :: (dbl u ++ [34])).length
    rw [List.length_cons, List.length_append]; show n = p + ((dbl u).length + 1 + 1); omega
  | bar t n h1 h2 =>
    rcases ba_kind (s := s) (a := p + 1) s.size (i := p + 1) (by omega) with ⟨n', g1, g2, g3, g4, g5⟩ | g1
    · rw [g1] at h2; injection h2 with a1 a2 a3 a4
      subst a2 a4
      obtain ⟨b1, b2⟩ := byt_of_ext (s := s) (a := p + 1) (b := n') rfl g2 (by omega)
      refine ⟨?_, fun _ => ⟨h1, byt_app.2 ⟨b1, by rw [b2, show p + 1 + (n' - (p + 1)) = n' by omega]; exact g4, True.intro⟩⟩⟩
      show n' + 1 = p + (124 :: ((s.extract (p + 1) n').data.toList ++ [124])).length
      rw [List.length_cons, List.length_append, b2]; show n' + 1 = p + (n' - (p + 1) + 1 + 1); omega
    · rw [g1] at h2; cases h2
  | key q h1 h2 h3 h4 h5 =>
    obtain ⟨b1, b2⟩ := byt_of_ext (s := s) (a := p + 1) (b := n) rfl (by omega) hlt.2
    refine ⟨?_, fun _ => ⟨h1, b1⟩⟩
    show n = p + (58 :: (s.extract (p + 1) n).data.toList).length
    rw [List.length_cons, b2]; omega
  | wrd q h1 h2 h3 h4 h5 =>
    obtain ⟨b1, b2⟩ := byt_of_ext (s := s) (a := p) (b := n) rfl (by omega) hlt.2
    exact ⟨by show n = p + _; rw [show wrL ((8 : Nat) : Int) (s.extract p n).data.toList false = (s.extract p n).data.toList from rfl, b2]; omega, fun _ => b1⟩
theorem wr_size (x : Tk) : (wrB x).size = (wrL x.k x.t.data.toList x.q).length := size_list _
/-- what is written of a token that was read is read as the token -/
theorem one_wr {s : ByteArray} {p k n : Nat} {t : ByteArray} {q : Bool} (hp : p < s.size) (h : oneF s p = .tok k t q n) (l c : Int) :
    oneF (wrB ⟨k, t, q, l, c⟩) 0 = .tok k t q (wrB ⟨k, t, q, l, c⟩).size ∧ (wrB ⟨k, t, q, l, c⟩).size = n - p := by
  have hsh := shape_of hp h
  have hlt := shape_lt hp hsh
  obtain ⟨w1, w2⟩ := shape_wr hsh hp
  have hz : (wrB ⟨k, t, q, l, c⟩).size = n - p := by rw [wr_size]; show (wrL (k : Int) t.data.toList q).length = n - p; omega
  refine ⟨?_, hz⟩
  by_cases h5 : k = 5
  · subst h5
    cases hsh with
    | hex q h1 h2 h3 h4 h6 h7 =>
      obtain ⟨b1, b2⟩ := byt_of_ext (s := s) (a := p + 2) (b := n) rfl (by omega) hlt.2
      have hx : ∀ x ∈ (s.extract (p + 2) n).data.toList, bHex x.toNat = true := fun x hx => by
        obtain ⟨j, hj, e⟩ := List.mem_iff_getElem.1 hx
        have h8 := byt_at b1 hj
        rw [List.getD_eq_getElem?_getD, List.getElem?_eq_getElem hj, Option.getD_some, e] at h8
        rw [← h8]; exact h3 _ (by omega) (by omega)
      generalize hL : (s.extract (p + 2) n).data.toList = L at *
      have hB : wrB ⟨(5 : Nat), lowB (s.extract (p + 2) n), false, l, c⟩ = ⟨(35 :: 120 :: lower L).toArray⟩ := by
        show (⟨(35 :: 120 :: (lower (s.extract (p + 2) n).data.toList).toArray.toList).toArray⟩ : ByteArray) = _
        rw [hL, List.toList_toArray]
      have hlow : (lowB (s.extract (p + 2) n)) = ⟨(lower L).toArray⟩ := by unfold lowB; rw [hL]
      rw [hB] at hz ⊢
      have hsz := size_list (35 :: 120 :: lower L)
      have hb := byt_self (35 :: 120 :: lower L)
      have hll : (lower L).length = L.length := List.length_map ..
      have ht := hex_tok (s := ⟨(35 :: 120 :: lower L).toArray⟩) (p := 0) (q := (⟨(35 :: 120 :: lower L).toArray⟩ : ByteArray).size) hb.1 hb.2.1 (fun i i1 i2 => by
        have h9 := byt_at hb.2.2 (j := i - 2) (by rw [hsz] at i2; simp at i2; omega)
        rw [show 0 + 1 + 1 + (i - 2) = i by omega] at h9
        have hj : i - 2 < (lower L).length := by rw [hsz] at i2; simp at i2; omega
        rw [h9, List.getD_eq_getElem?_getD, List.getElem?_eq_getElem hj, Option.getD_some]
        have hj' : i - 2 < L.length := by omega
        rw [show (lower L)[i - 2] = Lib.lowerB L[i - 2] from List.getElem_map ..]
        exact (low_hex _ (hx _ (List.getElem_mem hj'))).1) (by rw [hsz]; simp; omega) (Nat.le_refl _) (.inl rfl)
      rw [ht, hlow]
      congr 1
      have e := byt_ext (s := ⟨(35 :: 120 :: lower L).toArray⟩) (l := lower L) (i := 2) hb.2.2 (by rw [hsz]; simp; omega)
      rw [show 2 + (lower L).length = (⟨(35 :: 120 :: lower L).toArray⟩ : ByteArray).size by rw [hsz]; simp; omega] at e
      rw [show 0 + 2 = 2 from rfl, e]
      unfold lowB
      rw [List.toList_toArray, low_id (l := lower L) (fun x hx' => by
        obtain ⟨y, hy, e⟩ := List.mem_map.1 hx'
        rw [← e]; exact (low_hex y (hx y hy)).2)]
  · have hb := w2 h5
    have hm : ∀ j, j < n - p → cb (wrB ⟨k, t, q, l, c⟩) (0 + j) = cb s (p + j) := fun j hj => by
      rw [Nat.zero_add, byt_at hb (by omega)]
      exact cb_list _ _ (by show j < (wrL (k : Int) t.data.toList q).length; omega)
    have := tok_move (s := s) (s' := wrB ⟨k, t, q, l, c⟩) (p := p) (p' := 0) hp h (by rw [hz]; omega) hm (.inl (by rw [hz]; omega))
    rwa [Nat.zero_add, ← hz] at this
/-- a token that is written -/
def Good (x : Tk) : Prop := ∃ kn : Nat, x.k = kn ∧ 0 < (wrB x).size ∧ (wrB x).size ≤ 1048576 ∧ oneF (wrB x) 0 = .tok kn x.t x.q (wrB x).size
theorem scan_inv {s : ByteArray} {p : Nat} {y : Tk} {L : List Tk} (h : scanF s p = .ok (y :: L)) : ∃ k t q n, skipF s p < s.size ∧ oneF s (skipF s p) = .tok k t q n ∧ y = ⟨k, t, q, lnAt s (skipF s p), colAt s (skipF s p)⟩ ∧ scanF s n = .ok L ∧ skipF s p < n ∧ n ≤ s.size := by
  rw [scanF] at h
  split at h
  · rename_i hlt
    cases ho : oneF s (skipF s p) with
    | tok k t q n =>
      rw [ho] at h
      simp only [] at h
      have hsl := shape_lt hlt (shape_of hlt ho)
      rw [if_pos hsl.1] at h
      cases hn : scanF s n with
      | ok M =>
        rw [hn] at h
        simp only [SR.pre] at h
        injection h with h
        injection h with h1 h2
        exact ⟨k, t, q, n, hlt, rfl, h1.symm, by rw [hn]; exact congrArg SR.ok h2, hsl.1, hsl.2⟩
      | bad e x y => rw [hn] at h; simp [SR.pre] at h
    | err e => rw [ho] at h; simp at h
  · simp at h
theorem good_of_scan {x y : Tk} (hs : (wrB x).size ≤ 1048576) (h : scanF (wrB x) 0 = .ok [y]) (h1 : y.k = x.k) (h2 : y.t = x.t) (h3 : y.q = x.q) : Good x := by
  obtain ⟨k, t, q, n, hlt, ho, hy, hn, hl1, hl2⟩ := scan_inv h
  subst hy
  have h1' : (k : Int) = x.k := h1
  have h2' : t = x.t := h2
  have h3' : q = x.q := h3
  subst h2' h3'
  obtain ⟨w1, _⟩ := shape_wr (shape_of hlt ho) hlt
  have hz := wr_size x
  rw [h1'] at w1
  have e0 : skipF (wrB x) 0 = 0 := by omega
  rw [e0] at ho hl1 w1
  have en : n = (wrB x).size := by omega
  rw [en] at ho
  exact ⟨k, h1'.symm, by omega, hs, ho⟩
theorem scan_of_good {x : Tk} (h : Good x) : scanF (wrB x) 0 = .ok [⟨x.k, x.t, x.q, 1, 1⟩] := by
  obtain ⟨kn, hk, h0, hz, ho⟩ := h
  have hf := shape_first h0 (shape_of h0 ho)
  have hs : skipF (wrB x) 0 = 0 := skip_here hf.1 hf.2
  rw [scan_tok (p := 0) (n := (wrB x).size) (by rw [hs]; exact h0) (by rw [hs]; exact ho) (by rw [hs]; exact h0), hs, scan_end (p := (wrB x).size) (by rw [skip_end (Nat.le_refl _)]; exact Nat.le_refl _)]
  rw [hk]; rfl
/-- what was read is written -/
theorem good_tok {s : ByteArray} {p k n : Nat} {t : ByteArray} {q : Bool} (hp : p < s.size) (hs : s.size ≤ 1048576) (h : oneF s p = .tok k t q n) (l c : Int) : Good ⟨k, t, q, l, c⟩ := by
  obtain ⟨h1, h2⟩ := one_wr hp h l c
  have hlt := shape_lt hp (shape_of hp h)
  exact ⟨k, rfl, by omega, by omega, h1⟩
end Go.Proofs.YtpkdiciinhjfjaaDoor

/- lexis: Scan. -/
namespace Go.Proofs.YtpkdiciinhjfjaaDoor
open Go.RowKit Mth

def SgR (w wr : World) (B : Nat) (s : ByteArray) (v : Value) : Prop := ∃ (p : Nat) (L : List Tk), p ≤ s.size ∧ L.length ≤ p ∧ RdA wr (B + 1) s p ∧ FnB wr B ∧ LexW wr ∧ wr.ownsRow (B + 2) 34 5 v L.length (tksCells L) ∧
  scanF s 0 = (scanF s p).pre L ∧ Below w.heap.size w wr
theorem own_grown {w w' : World} {base size n g : Nat} {e : TypeId} {v : Value} {xs : List Value} (h : w.ownsRow base e size v n xs) (hg : w.grownBy w' (some g)) (hb : g < base) : w'.ownsRow base e size v n xs :=
  h.kept hg (by cases hv : v.ownBlock with
    | none => exact .inl rfl
    | some x => exact .inr (fun e => by have := (h.lt x hv).1; rw [hv] at *; have := Option.some.inj e; omega))
set_option maxHeartbeats 2000000 in
set_option maxRecDepth 100000 in
theorem scan_long (s : ByteArray) (h : 1048576 < s.size) (w : World) : Calls Tryd.prog 11 #[.string s] w fun e w' => e = .returned (.tuple #[.slice none 0 0, .int .i64 0, .int .i64 0, .int .i64 2]) ∧ w = w' := by
  go_enter Tryd.func11, Tryd.ntmps11
  go_wp2
  refine bodyPost_ret (results4 rfl rfl rfl rfl rfl) rfl ?_
  exact ⟨rfl, rfl⟩
set_option maxHeartbeats 4000000 in
set_option maxRecDepth 100000 in
theorem scan_any (s : ByteArray) (hs : s.size ≤ 1048576) (w : World) (hL : LexW w) : Calls Tryd.prog 11 #[.string s] w fun e w' => ScanO w w' (scanF s 0) e := by
  have HLW := Lib.hid hL
  have RE := Lib.hid (readers_any w)
  clear hL
  go_enter Tryd.func11, Tryd.ntmps11
  go_wp2_with fail
  refine RE.out.mono ?_
  rintro e w1 ⟨rfl, hb1⟩
  have HB1 := Lib.hid hb1
  clear hb1
  have FN0 : Hid (FnB ((w1.alloc (Obj.cells #[.func (.func 39) #[] #[], .func (.func 40) #[] #[], .func (.func 41) #[] #[], .func (.func 42) #[] #[], .func (.func 43) #[] #[], .func (.func 44) #[] #[], .func (.func 45) #[] #[], .func (.func 46) #[] #[]] 62)).alloc (Obj.cells #[.string s, .int .i64 0, .int .i64 1, .int .i64 0] 65)) w1.heap.size) := Lib.hid ((Below.heap_alloc _ _ _ (by simp)).trans (heap_alloc_new w1 (Obj.cells #[.func (.func 39) #[] #[], .func (.func 40) #[] #[], .func (.func 41) #[] #[], .func (.func 42) #[] #[], .func (.func 43) #[] #[], .func (.func 44) #[] #[], .func (.func 45) #[] #[], .func (.func 46) #[] #[]] 62)))
  have RD0 : Hid (RdA ((w1.alloc (Obj.cells #[.func (.func 39) #[] #[], .func (.func 40) #[] #[], .func (.func 41) #[] #[], .func (.func 42) #[] #[], .func (.func 43) #[] #[], .func (.func 44) #[] #[], .func (.func 45) #[] #[], .func (.func 46) #[] #[]] 62)).alloc (Obj.cells #[.string s, .int .i64 0, .int .i64 1, .int .i64 0] 65)) (w1.heap.size + 1) s 0) := Lib.hid (by
    have h := heap_alloc_new (w1.alloc (Obj.cells #[.func (.func 39) #[] #[], .func (.func 40) #[] #[], .func (.func 41) #[] #[], .func (.func 42) #[] #[], .func (.func 43) #[] #[], .func (.func 44) #[] #[], .func (.func 45) #[] #[], .func (.func 46) #[] #[]] 62)) (Obj.cells #[.string s, .int .i64 0, .int .i64 1, .int .i64 0] 65)
    have e : (w1.alloc (Obj.cells #[.func (.func 39) #[] #[], .func (.func 40) #[] #[], .func (.func 41) #[] #[], .func (.func 42) #[] #[], .func (.func 43) #[] #[], .func (.func 44) #[] #[], .func (.func 45) #[] #[], .func (.func 46) #[] #[]] 62)).heap.size = w1.heap.size + 1 := by simp
    rw [e] at h; exact h)
  have BE0 : Hid (Below w.heap.size w ((w1.alloc (Obj.cells #[.func (.func 39) #[] #[], .func (.func 40) #[] #[], .func (.func 41) #[] #[], .func (.func 42) #[] #[], .func (.func 43) #[] #[], .func (.func 44) #[] #[], .func (.func 45) #[] #[], .func (.func 46) #[] #[]] 62)).alloc (Obj.cells #[.string s, .int .i64 0, .int .i64 1, .int .i64 0] 65))) := Lib.hid ((HB1.out.alloc HB1.out.size _).alloc (by have := HB1.out.size; simp; omega) _)
  have LX0 : Hid (LexW ((w1.alloc (Obj.cells #[.func (.func 39) #[] #[], .func (.func 40) #[] #[], .func (.func 41) #[] #[], .func (.func 42) #[] #[], .func (.func 43) #[] #[], .func (.func 44) #[] #[], .func (.func 45) #[] #[], .func (.func 46) #[] #[]] 62)).alloc (Obj.cells #[.string s, .int .i64 0, .int .i64 1, .int .i64 0] 65))) := Lib.hid (HLW.out.below BE0.out)
  have hB := HB1.out.size
  go_wp2
  go_loopw [6] (fun v wr => SgR w wr w1.heap.size s v) (fun _ wr => s.size - atIn wr (w1.heap.size + 1))
  case atStart => exact ⟨0, [], Nat.zero_le _, Nat.le_refl _, RD0.out, FN0.out, LX0.out, World.ownsRow_nil _ _ _ _, (SR.pre_nil _).symm, BE0.out⟩
  case round =>
    obtain ⟨p, L, hp, hLp, hrd, hfn, hlx, hown, hsc, hbel⟩ := hrel
    have HRD := Lib.hid hrd; have HFN := Lib.hid hfn; have HLX := Lib.hid hlx; have HOWN := Lib.hid hown; have HSC := Lib.hid hsc; have HBL := Lib.hid hbel
    have HM : Hid (atIn wr (w1.heap.size + 1) = p) := Lib.hid (atIn_of hrd)
    have SK := Lib.hid (skip_any (w1.heap.size + 1) s p wr HRD.out hs hp)
    have HPQ := Lib.hid (skip_ge (s := s) s.size (p := p) (by omega))
    clear hrd hfn hlx hown hsc hbel FN0 RD0 BE0 LX0 RE
    go_wp2_with fail
    refine SK.out.mono ?_
    rintro e w2 ⟨hgr, (⟨rfl, hq, hbl, h59, hrd2⟩ | ⟨rfl, hq⟩)⟩
    · obtain ⟨q, hqe⟩ : ∃ q, skipF s p = q := ⟨_, rfl⟩
      rw [hqe] at hq hbl h59 hrd2 HPQ
      have HQE := Lib.hid hqe
      have HRD2 := Lib.hid hrd2
      have hgb : w1.heap.size + 1 < wr.heap.size := Rdr.lt HRD.out
      have HFN2 : Hid (FnB w2 w1.heap.size) := Lib.hid ((hgr.block _ (by omega) (fun e => by have := Option.some.inj e; omega)).trans HFN.out)
      have HLX2 : Hid (LexW w2) := Lib.hid (HLX.out.grown HRD.out hgr)
      have HOWN2 := Lib.hid (own_grown HOWN.out hgr (by omega))
      have HBL2 := Lib.hid (HBL.out.grown hgr HBL.out.size (fun kx hkx => by have := Option.some.inj hkx; omega))
      obtain ⟨d0, d1, d2, d3, g0, g1, g2, g3⟩ := rdaC hrd2
      have hbk := cb_at hq
      have hfs := fs_le s q
      have CO : Hid (∀ n, Calls Tryd.prog 21 #[.pointer (some ⟨w1.heap.size + 1, 0, none⟩)] (w2.drewN n) fun e w' => e = .returned (.int .i64 (colAt s q : Int)) ∧ ∃ m, w' = (w2.drewN n).drewN m) := Lib.hid (fun n => column_any (w1.heap.size + 1) s q _ _ _ (Rdr.drewN HRD2.out n) (by omega) hfs)
      obtain ⟨k, hke⟩ : ∃ k, stF (cb s q) = k := ⟨_, rfl⟩
      have hk8 := stF_lt (cb s q)
      have hmt := meth_of hs hq (w1.heap.size + 1)
      have hcf := FnB.at HFN2.out hk8
      have STO : Hid (∀ n, Calls Tryd.prog 22 #[.int .u8 ((cb s q : Nat) : Int)] (w2.drewN n) fun e w' => e = .returned (.int .i64 ((k : Nat) : Int)) ∧ w2.drewN n = w') := Lib.hid (fun n => by
        have h := startOf_any (cb s q) (cb_lt s q) (w2.drewN n) (HLX2.out.drewN n).tab
        rwa [hke] at h)
      rw [hke] at hk8 hmt hcf
      obtain ⟨m, hme⟩ : ∃ m, methN k = m := ⟨_, rfl⟩
      rw [hme] at hmt hcf
      unfold fnV at hcf
      obtain ⟨hen, hmc⟩ := hmt
      have MT := Lib.hid hmc
      have hk8' : (k : Int) < 8 := by omega
      clear hgr hrd2 hqe hbl h59 hmc hke hme
      go_wp2
      go_quiet ((go_at_call 21; exact Calls.quiet_of (CO.out _)))
      go_wp2_with (go_at_call 22; refine (STO.out _).mono ?_; rintro e w9 ⟨rfl, rfl⟩)
      refine Calls.mono (MT.out _ (Rdr.drewN HRD2.out _) (HLX2.out.drewN _)) ?_
      rintro e w3 (⟨kk, t, qd, n, ho, h1, h2, rfl, hadv⟩ | ⟨E, ho, hE, rfl, hgr3, a9, l9, f9, hr9⟩)
      · have HSN : Hid (scanF s 0 = (scanF s n).pre (L ++ [⟨kk, t, qd, lnAt s q, colAt s q⟩])) := Lib.hid (by
          rw [HSC.out, scan_tok (s := s) (p := p) (by rw [HQE.out]; exact hq) (by rw [HQE.out]; exact ho) (by rw [HQE.out]; exact h1), HQE.out, SR.pre_pre])
        have hg3 : w2.grownBy w3 (some (w1.heap.size + 1)) := grown_tr (grown_drewN (grown_refl _ _) _) hadv.1
        have hg2 : w1.heap.size + 1 < w2.heap.size := Rdr.lt HRD2.out
        have hg3s := hg3.size
        have HFN3 : Hid (FnB w3 w1.heap.size) := Lib.hid ((hg3.block _ (by omega) (fun e => by have := Option.some.inj e; omega)).trans HFN2.out)
        have HLX3 : Hid (LexW w3) := Lib.hid (HLX2.out.grown HRD2.out hg3)
        have HOWN3 := Lib.hid (own_grown HOWN2.out hg3 (by omega))
        have HBL3 := Lib.hid (HBL2.out.grown hg3 HBL2.out.size (fun kx hkx => by have := Option.some.inj hkx; omega))
        have HRD3 := Lib.hid hadv.2
        have HOW2 := Lib.hid ((HOWN3.out.alloc (Obj.cells #[.int .i64 (kk : Int), .string t, .bool qd, .int .i64 (lnAt s q : Int), .int .i64 (colAt s q : Int)] 34)).alloc (Obj.cells #[.int .i64 (kk : Int), .string t, .bool qd, .int .i64 (lnAt s q : Int), .int .i64 (colAt s q : Int)] 34))
        have HU : Hid (((w3.alloc (Obj.cells #[.int .i64 (kk : Int), .string t, .bool qd, .int .i64 (lnAt s q : Int), .int .i64 (colAt s q : Int)] 34)).alloc (Obj.cells #[.int .i64 (kk : Int), .string t, .bool qd, .int .i64 (lnAt s q : Int), .int .i64 (colAt s q : Int)] 34)).heap[w3.heap.size + 1]? = some (.cells #[.int .i64 (kk : Int), .string t, .bool qd, .int .i64 (lnAt s q : Int), .int .i64 (colAt s q : Int)] 34 (0, 0))) := Lib.hid (by have := heap_alloc_new (w3.alloc (Obj.cells #[.int .i64 (kk : Int), .string t, .bool qd, .int .i64 (lnAt s q : Int), .int .i64 (colAt s q : Int)] 34)) (Obj.cells #[.int .i64 (kk : Int), .string t, .bool qd, .int .i64 (lnAt s q : Int), .int .i64 (colAt s q : Int)] 34); simpa using this)
        have hz3 : ((w3.alloc (Obj.cells #[.int .i64 (kk : Int), .string t, .bool qd, .int .i64 (lnAt s q : Int), .int .i64 (colAt s q : Int)] 34)).alloc (Obj.cells #[.int .i64 (kk : Int), .string t, .bool qd, .int .i64 (lnAt s q : Int), .int .i64 (colAt s q : Int)] 34)).heap.size = w3.heap.size + 2 := by simp
        have HBA := Lib.hid ((HBL3.out.alloc HBL3.out.size (Obj.cells #[.int .i64 (kk : Int), .string t, .bool qd, .int .i64 (lnAt s q : Int), .int .i64 (colAt s q : Int)] 34)).alloc (by have := HBL3.out.size; simp; omega) (Obj.cells #[.int .i64 (kk : Int), .string t, .bool qd, .int .i64 (lnAt s q : Int), .int .i64 (colAt s q : Int)] 34))
        have HRA : Hid (RdA ((w3.alloc (Obj.cells #[.int .i64 (kk : Int), .string t, .bool qd, .int .i64 (lnAt s q : Int), .int .i64 (colAt s q : Int)] 34)).alloc (Obj.cells #[.int .i64 (kk : Int), .string t, .bool qd, .int .i64 (lnAt s q : Int), .int .i64 (colAt s q : Int)] 34)) (w1.heap.size + 1) s n) := Lib.hid (Rdr.alloc (Rdr.alloc HRD3.out _) _)
        have HLT := Lib.hid HOW2.out.lt
        have KP : Hid (∀ w4 row, ((w3.alloc (Obj.cells #[.int .i64 (kk : Int), .string t, .bool qd, .int .i64 (lnAt s q : Int), .int .i64 (colAt s q : Int)] 34)).alloc (Obj.cells #[.int .i64 (kk : Int), .string t, .bool qd, .int .i64 (lnAt s q : Int), .int .i64 (colAt s q : Int)] 34)).grownBy w4 row → (∀ kx, row = some kx → w1.heap.size + 2 ≤ kx) → RdA w4 (w1.heap.size + 1) s n ∧ FnB w4 w1.heap.size ∧ LexW w4 ∧ Below w.heap.size w w4) := Lib.hid (fun w4 row h4 h5 => by
          have hbk : ∀ i, i < w1.heap.size + 2 → i < w3.heap.size → w4.heap[i]? = w3.heap[i]? := fun i i1 i2 => (h4.block i (by omega) (fun e => by have := h5 i e.symm; omega)).trans ((Below.heap_alloc _ _ i (by simp; omega)).trans (Below.heap_alloc _ _ i i2))
          have hb4 : Below w.heap.size w w4 := HBA.out.grown h4 HBA.out.size (fun kx hkx => by have := h5 kx hkx; omega)
          exact ⟨(hbk _ (by omega) (by omega)).trans HRD3.out, (hbk _ (by omega) (by omega)).trans HFN3.out, HLW.out.below hb4, hb4⟩)
        have HO1 := Lib.hid h1; have HO2 := Lib.hid h2
        have hnq : L.length + 1 ≤ n := by have := HPQ.out; omega
        have HMn : Hid (∀ w4, RdA w4 (w1.heap.size + 1) s n → s.size - atIn w4 (w1.heap.size + 1) < s.size - atIn wr (w1.heap.size + 1)) := Lib.hid (fun w4 h4 => meas_lt HM.out h4 (by have := HPQ.out; omega) h2)
        clear hadv ho h1 h2 hg3 hg2 hg3s hz3 d0 d1 d2 d3 g0 g1 g2 g3 hcf
        unfold tokV
        go_wp2_with (at_builtin; refine append_tok rfl (.tmp 43) (.tmp 45) rfl (w1.heap.size + 2) _ L ⟨kk, t, qd, lnAt s q, colAt s q⟩ (w3.heap.size + 1) 1 rfl rfl HOW2.out HU.out (by omega) ?_ ?_)
        · have := (Rdr.lt HRD3.out); simp; omega
        · intro v' w4 hown2 hgr2
          have HO3 := Lib.hid hown2
          have HK4 := Lib.hid (KP.out _ _ hgr2 (fun kk hkk => (HLT.out kk hkk).1))
          clear hown2 hgr2
          go_wp2
          go_roundw
          case rel => exact ⟨n, L ++ [⟨kk, t, qd, lnAt s q, colAt s q⟩], HO2.out, by rw [List.length_append]; exact hnq, HK4.out.1, HK4.out.2.1, HK4.out.2.2.1, (by rw [List.length_append]; exact HO3.out), HSN.out, HK4.out.2.2.2⟩
          case measure => exact HMn.out _ HK4.out.1
      · have HX : Hid (scanF s 0 = .bad E (lnAt s q) (colAt s q)) := Lib.hid (by
          rw [HSC.out, scan_err (s := s) (p := p) (by rw [HQE.out]; exact hq) (by rw [HQE.out]; exact ho), HQE.out]; rfl)
        have HBL3 := Lib.hid (HBL2.out.grown (grown_tr (grown_drewN (grown_refl _ _) _) hgr3) HBL2.out.size (fun kx hkx => by have := Option.some.inj hkx; omega))
        have hE0 : ((E : Int) != 0) = true := by rw [bne_iff_ne]; omega
        have HE := Lib.hid hE
        clear ho hgr3 hr9 hE d0 d1 d2 d3 g0 g1 g2 g3 hcf
        unfold noTok tokV
        go_wp2
        refine bodyPost_ret (results4 rfl rfl rfl rfl rfl) rfl ?_
        exact ⟨HBL3.out.alloc HBL3.out.size _, .inr ⟨E, _, _, HX.out, HE.out, rfl⟩⟩
    · have HX : Hid (scanF s 0 = .ok L) := Lib.hid (by rw [HSC.out, scan_end hq]; simp [SR.pre])
      have hgb : w1.heap.size + 1 < wr.heap.size := Rdr.lt HRD.out
      have HOWN2 := Lib.hid (own_grown HOWN.out hgr (by omega))
      have HBL2 := Lib.hid (HBL.out.grown hgr HBL.out.size (fun kx hkx => by have := Option.some.inj hkx; omega))
      clear hgr hq
      go_wp2
      refine bodyPost_ret (results4 rfl rfl rfl rfl rfl) rfl ?_
      exact ⟨HBL2.out, .inl ⟨L, _, HX.out, rfl, TkL.own HOWN2.out, FarV.own HOWN2.out (by omega)⟩⟩
end Go.Proofs.YtpkdiciinhjfjaaDoor

/- lexis's reference: Same; lexis: inQuotes, written. -/
namespace Go.Proofs.YtpkdiciinhjfjaaDoor
open Go.RowKit Mth

/-- the same tokens; pl: at the same places -/
def SameT (pl : Bool) (x y : Tk) : Prop := x.k = y.k ∧ x.t = y.t ∧ x.q = y.q ∧ (pl = true → x.l = y.l ∧ x.c = y.c)
def SameL (pl : Bool) (A B : List Tk) : Prop := A.length = B.length ∧ ∀ (i : Nat) (x y : Tk), A[i]? = some x → B[i]? = some y → SameT pl x y
theorem SameL.refl (pl : Bool) (A : List Tk) : SameL pl A A := ⟨rfl, fun i x y h1 h2 => by obtain rfl := Option.some.inj (h1.symm.trans h2); exact ⟨rfl, rfl, rfl, fun _ => ⟨rfl, rfl⟩⟩⟩
def SmRR (w wr : World) (n : Nat) (i : Value) : Prop := ∃ k m : Nat, k ≤ n ∧ i = .int .i64 (k : Int) ∧ wr = w.drewN m
end Go.Proofs.YtpkdiciinhjfjaaDoor

/- lexis: inQuotes, written. -/
namespace Go.Proofs.YtpkdiciinhjfjaaDoor
open Go.RowKit Mth

theorem str_cat (a b : List UInt8) : (⟨a.toArray⟩ : ByteArray) ++ ⟨b.toArray⟩ = ⟨(a ++ b).toArray⟩ := by
  apply ByteArray.ext
  simp
theorem str_self (t : ByteArray) : (⟨t.data.toList.toArray⟩ : ByteArray) = t := by simp
def qtB (t : ByteArray) : ByteArray := ⟨(34 :: (dbl t.data.toList ++ [34])).toArray⟩
theorem qt_eq (t : ByteArray) : (⟨#[34]⟩ : ByteArray) ++ ⟨(dbl t.data.toList).toArray⟩ ++ ⟨#[34]⟩ = qtB t := by
  show (⟨([34] : List UInt8).toArray⟩ : ByteArray) ++ _ ++ ⟨([34] : List UInt8).toArray⟩ = _
  rw [str_cat, str_cat]; rfl
theorem len_data (t : ByteArray) : t.data.toList.length = t.size := Array.length_toList
set_option maxRecDepth 100000 in
theorem inQuotes_any (t : ByteArray) (ht : t.size ≤ 4194304) (w : World) (hL : LexW w) : Calls Tryd.prog 64 #[.string t] w fun e w' => e = .returned (.string (qtB t)) ∧ Below w.heap.size w w' := by
  have RP : Hid (Calls Tryd.prog 62 #[.string t, .string ⟨#[34]⟩, .string ⟨#[34, 34]⟩] w fun e w' => e = .returned (.string ⟨(dbl t.data.toList).toArray⟩) ∧ Below w.heap.size w w') := Lib.hid (by
    obtain ⟨m2, hm2⟩ := hL.max
    have hc := Lib.countB_mul_le (⟨#[34]⟩ : ByteArray) (by decide) _ t (Nat.le_refl _)
    have e1 : (⟨#[34]⟩ : ByteArray).size = 1 := rfl
    have e2 : (⟨#[34, 34]⟩ : ByteArray).size = 2 := rfl
    rw [e1] at hc
    have h := Tryd.strings_ReplaceAll t ⟨#[34]⟩ ⟨#[34, 34]⟩ m2 w (by omega) hm2 (by decide) (by rw [e2]; omega)
    refine h.mono fun e w' ⟨h1, h2⟩ => ⟨?_, h2⟩
    rw [h1]; exact ret_s (by rw [← rep_dbl]))
  have hd := dbl_len t.data.toList
  rw [len_data] at hd
  have hz : (⟨(dbl t.data.toList).toArray⟩ : ByteArray).size ≤ 8388608 := by rw [size_list]; omega
  have QE := Lib.hid (qt_eq t)
  clear hL hd
  generalize (⟨(dbl t.data.toList).toArray⟩ : ByteArray) = d at *
  go_enter Tryd.func64, Tryd.ntmps64
  go_wp2_with (go_at_call 62; refine RP.out.mono ?_; rintro e w1 ⟨rfl, hb⟩)
  go_ret
  exact ⟨ret_s QE.out, hb⟩
/-- a token of whatever kind, as a value -/
def tkV (x : Tk) : Value := .agg #[.int .i64 x.k, .string x.t, .bool x.q, .int .i64 x.l, .int .i64 x.c]
theorem wr5 {x : Tk} (h : x.k = 5) : (⟨#[35, 120]⟩ : ByteArray) ++ x.t = wrB x := by
  unfold wrB wrL; rw [if_pos h]
  show (⟨([35, 120] : List UInt8).toArray⟩ : ByteArray) ++ x.t = _
  rw [← str_self x.t, str_cat]; rfl
theorem wr6 {x : Tk} (h : x.k = 6) : (⟨#[35, 98]⟩ : ByteArray) ++ x.t = wrB x := by
  unfold wrB wrL; rw [if_neg (by omega), if_pos h]
  show (⟨([35, 98] : List UInt8).toArray⟩ : ByteArray) ++ x.t = _
  rw [← str_self x.t, str_cat]; rfl
theorem wr7 {x : Tk} (h : x.k = 7) : qtB x.t = wrB x := by unfold wrB wrL; rw [if_neg (by omega), if_neg (by omega), if_pos h]; rfl
theorem wr9 {x : Tk} (h : x.k = 9) : (⟨#[58]⟩ : ByteArray) ++ x.t = wrB x := by
  unfold wrB wrL; rw [if_neg (by omega), if_neg (by omega), if_neg (by omega), if_pos h]
  show (⟨([58] : List UInt8).toArray⟩ : ByteArray) ++ x.t = _
  rw [← str_self x.t, str_cat]; rfl
theorem wr8q {x : Tk} (h : x.k = 8) (hq : x.q = true) : (⟨#[124]⟩ : ByteArray) ++ x.t ++ ⟨#[124]⟩ = wrB x := by
  unfold wrB wrL; rw [if_neg (by omega), if_neg (by omega), if_neg (by omega), if_neg (by omega), if_pos ⟨h, hq⟩]
  show (⟨([124] : List UInt8).toArray⟩ : ByteArray) ++ x.t ++ ⟨([124] : List UInt8).toArray⟩ = _
  rw [← str_self x.t, str_cat, str_cat]; rfl
theorem wrP {x : Tk} (h : (1 ≤ x.k ∧ x.k ≤ 4) ∨ (x.k = 8 ∧ x.q = false)) : x.t = wrB x := by
  unfold wrB wrL
  rw [if_neg (by omega), if_neg (by omega), if_neg (by omega), if_neg (by omega), if_neg (fun e => by
    rcases h with h | h
    · omega
    · rw [h.2] at e; cases e.2), if_pos (by omega)]
theorem wr0 {x : Tk} (h : x.k ≤ 0 ∨ 10 ≤ x.k) : (⟨#[]⟩ : ByteArray) = wrB x := by
  unfold wrB wrL
  rw [if_neg (by omega), if_neg (by omega), if_neg (by omega), if_neg (by omega), if_neg (by omega), if_neg (by omega)]
set_option maxHeartbeats 2000000 in
set_option maxRecDepth 100000 in
theorem written_any (x : Tk) (ht : x.t.size ≤ 4194304) (w : World) (hL : LexW w) : Calls Tryd.prog 54 #[tkV x] w fun e w' => e = .returned (.string (wrB x)) ∧ Below w.heap.size w w' := by
  obtain ⟨k, t, q, l, c⟩ := x
  have ht' : t.size ≤ 4194304 := ht
  have BE := Lib.hid (Below.refl w.heap.size w)
  have HLA : Hid (∀ o, LexW (w.alloc o)) := Lib.hid (fun o => hL.below ((Below.refl _ _).alloc (Nat.le_refl _) _))
  have BA : Hid (∀ o, Below w.heap.size w (w.alloc o)) := Lib.hid (fun o => BE.out.alloc (Nat.le_refl _) o)
  have SZ : Hid (∀ o, w.heap.size ≤ (w.alloc o).heap.size) := Lib.hid (fun o => by simp)
  unfold tkV
  clear hL ht
  by_cases h5 : k = 5
  · subst h5
    have HW := Lib.hid (wr5 (x := ⟨5, t, q, l, c⟩) rfl)
    go_enter Tryd.func54, Tryd.ntmps54
    go_wp2
    go_ret
    exact ⟨ret_s HW.out, BA.out _⟩
  by_cases h6 : k = 6
  · subst h6
    have HW := Lib.hid (wr6 (x := ⟨6, t, q, l, c⟩) rfl)
    clear h5
    go_enter Tryd.func54, Tryd.ntmps54
    go_wp2
    go_ret
    exact ⟨ret_s HW.out, BA.out _⟩
  by_cases h7 : k = 7
  · subst h7
    have HW := Lib.hid (wr7 (x := ⟨7, t, q, l, c⟩) rfl)
    have IQ : Hid (∀ o, Calls Tryd.prog 64 #[.string t] (w.alloc o) fun e w' => e = .returned (.string (qtB t)) ∧ Below (w.alloc o).heap.size (w.alloc o) w') := Lib.hid (fun o => inQuotes_any t ht' _ (HLA.out o))
    clear h5 h6
    go_enter Tryd.func54, Tryd.ntmps54
    go_wp2_with (go_at_call 64; refine (IQ.out _).mono ?_; rintro e w1 ⟨rfl, hb⟩; have HB := Lib.hid hb; clear hb)
    go_ret
    exact ⟨ret_s HW.out, (BA.out _).trans (HB.out.mono (SZ.out _))⟩
  by_cases h9 : k = 9
  · subst h9
    have HW := Lib.hid (wr9 (x := ⟨9, t, q, l, c⟩) rfl)
    clear h5 h6 h7
    go_enter Tryd.func54, Tryd.ntmps54
    go_wp2
    go_ret
    exact ⟨ret_s HW.out, BA.out _⟩
  by_cases h8 : k = 8
  · subst h8
    clear h5 h6 h7 h9
    cases q with
    | true =>
      have HW := Lib.hid (wr8q (x := ⟨8, t, true, l, c⟩) rfl rfl)
      go_enter Tryd.func54, Tryd.ntmps54
      go_wp2
      go_ret
      exact ⟨ret_s HW.out, BA.out _⟩
    | false =>
      have HW := Lib.hid (wrP (x := ⟨8, t, false, l, c⟩) (.inr ⟨rfl, rfl⟩))
      go_enter Tryd.func54, Tryd.ntmps54
      go_wp2
      go_ret
      exact ⟨ret_s HW.out, BA.out _⟩
  by_cases hp : 1 ≤ k ∧ k ≤ 4
  · have HW := Lib.hid (wrP (x := ⟨k, t, q, l, c⟩) (.inl hp))
    rcases (show k = 1 ∨ k = 2 ∨ k = 3 ∨ k = 4 by omega) with rfl | rfl | rfl | rfl
    all_goals (
      clear h5 h6 h7 h8 h9 hp
      go_enter Tryd.func54, Tryd.ntmps54
      go_wp2
      go_ret
      exact ⟨ret_s HW.out, BA.out _⟩)
  · have HW := Lib.hid (wr0 (x := ⟨k, t, q, l, c⟩) (by show k ≤ 0 ∨ 10 ≤ k; omega))
    have e5 : (k == 5) = false := beq_eq_false_iff_ne.2 h5
    have e6 : (k == 6) = false := beq_eq_false_iff_ne.2 h6
    have e7 : (k == 7) = false := beq_eq_false_iff_ne.2 h7
    have e9 : (k == 9) = false := beq_eq_false_iff_ne.2 h9
    have e8 : (k == 8) = false := beq_eq_false_iff_ne.2 h8
    have e1 : (k == 1) = false := beq_eq_false_iff_ne.2 (by omega)
    have e2 : (k == 2) = false := beq_eq_false_iff_ne.2 (by omega)
    have e3 : (k == 3) = false := beq_eq_false_iff_ne.2 (by omega)
    have e4 : (k == 4) = false := beq_eq_false_iff_ne.2 (by omega)
    clear h5 h6 h7 h8 h9 hp
    go_enter Tryd.func54, Tryd.ntmps54
    go_wp2
    go_ret
    exact ⟨ret_s HW.out, BA.out _⟩
end Go.Proofs.YtpkdiciinhjfjaaDoor

/- lexis: Write. -/
namespace Go.Proofs.YtpkdiciinhjfjaaDoor
open Go.RowKit Mth

theorem below_drewN {B : Nat} {a w : World} (h : Below B a w) (n : Nat) : Below B a (w.drewN n) := ⟨h.os, h.tape, h.output, h.size, h.block⟩
/-- the answer of Write -/
def WriteO (w w' : World) (x : Tk) (e : Ending) : Prop :=
  Below w.heap.size w w' ∧ ((Good x ∧ e = .returned (.tuple #[.string (wrB x), .int .i64 0])) ∨ (¬ Good x ∧ e = .returned (.tuple #[.string ⟨#[]⟩, .int .i64 73])))
theorem tok_neq {x y : Tk} (h : ¬ (x.k = y.k ∧ x.t = y.t ∧ x.q = y.q)) (hl : x.l = y.l) (hc : x.c = y.c) : x ≠ y := fun e => h (by subst e; exact ⟨rfl, rfl, rfl⟩)
set_option maxHeartbeats 2000000 in
set_option maxRecDepth 100000 in
theorem write_any (x : Tk) (ht : x.t.size ≤ 1048576) (w : World) (hL : LexW w) : Calls Tryd.prog 33 #[tkV x] w fun e w' => WriteO w w' x e := by
  have O := Lib.hid (heap_alloc_new w (Obj.cells #[.int .i64 x.k, .string x.t, .bool x.q, .int .i64 x.l, .int .i64 x.c] 34))
  have BA : Hid (Below w.heap.size w (w.alloc (Obj.cells #[.int .i64 x.k, .string x.t, .bool x.q, .int .i64 x.l, .int .i64 x.c] 34))) := Lib.hid ((Below.refl _ _).alloc (Nat.le_refl _) _)
  have HLA := Lib.hid (hL.below BA.out)
  have WR := Lib.hid (written_any x (by omega) _ HLA.out)
  have hws : (wrB x).size ≤ 2097154 := by
    rw [wr_size]
    have hd := dbl_len x.t.data.toList
    have hld := len_data x.t
    unfold wrL
    (repeat' split) <;> (try simp only [List.length_cons, List.length_append, List.length_nil]) <;> (first | omega | (show 0 ≤ _; omega))
  clear hL
  unfold tkV at WR ⊢
  go_enter Tryd.func33, Tryd.ntmps33
  go_wp2_with (go_at_call 54; refine WR.out.mono ?_; rintro e w1 ⟨rfl, hb⟩)
  have HB := Lib.hid hb
  have HL1 := Lib.hid (HLA.out.below (hb.mono (by simp)))
  have hbk : w1.heap[w.heap.size]? = _ := (hb.block _ (by simp)).trans O.out
  have HK := Lib.hid hbk
  have HBW : Hid (Below w.heap.size w w1) := Lib.hid (BA.out.trans (HB.out.mono (by simp)))
  clear hb hbk
  by_cases hs : (wrB x).size ≤ 1048576
  · have SC := Lib.hid (scan_any (wrB x) hs w1 HL1.out)
    go_wp2_with fail
    refine SC.out.mono ?_
    rintro e w2 ⟨hb2, (⟨L, v, hLs, rfl, htk, hfar⟩ | ⟨E, x0, y0, hbad, hE, rfl⟩)⟩
    · have BX : Hid (Below w.heap.size w w2) := Lib.hid (HBW.out.trans (hb2.mono HBW.out.size))
      have hbk2 : w2.heap[w.heap.size]? = _ := (hb2.block _ (Array.getElem?_eq_some_iff.1 HK.out).1).trans HK.out
      obtain ⟨c0, c1, c2, c3, c4⟩ := blk5 hbk2
      obtain ⟨f0, f1, f2, f3, f4⟩ := frz5 hbk2
      obtain ⟨ao, cap, rfl, hcs⟩ := htk
      have HCS := Lib.hid hcs
      have hlt1 : w.heap.size < w1.heap.size := (Array.getElem?_eq_some_iff.1 HK.out).1
      have HFAR : Hid (∀ b off, ao = some ⟨b, off, none⟩ → w.heap.size < b) := Lib.hid (fun b off e => by subst e; have := hfar _ _ _ rfl; exact Nat.lt_of_lt_of_le hlt1 this)
      clear hcs hbk2 hfar
      by_cases hg : Good x
      · have hLg : L = [⟨x.k, x.t, x.q, 1, 1⟩] := by
          have := scan_of_good hg
          rw [hLs] at this
          injection this
        have HG := Lib.hid hg
        subst hLg
        obtain ⟨b, off, rfl, hlt, hc⟩ := HCS.out (by simp)
        obtain ⟨a0, a1, a2, a3, a4⟩ := TkL.at hc (i := 0) rfl
        rw [Nat.zero_mul, Nat.add_zero] at a0 a1 a2 a3 a4
        have hbw : w.heap.size < b := HFAR.out b off rfl
        clear hc hLs hb2 hg
        go_wp2
        go_quiet (fail)
        go_wp2
        go_ret2
        exact ⟨below_drewN ((BX.out.setCell (p := ⟨w.heap.size, 3, none⟩) (Nat.le_refl _) _).setCell (p := ⟨w.heap.size, 4, none⟩) (Nat.le_refl _) _) _, .inl ⟨HG.out, rfl⟩⟩
      · have HN := Lib.hid hg
        by_cases h1 : L.length = 1
        · obtain ⟨y, rfl⟩ : ∃ y, L = [y] := by
            cases L with
            | nil => simp at h1
            | cons y L => cases L with
              | nil => exact ⟨y, rfl⟩
              | cons z L => simp at h1
          have hne : ¬ (y.k = x.k ∧ y.t = x.t ∧ y.q = x.q) := fun ⟨a, b, c⟩ => hg (good_of_scan hs hLs a b c)
          have HNE := Lib.hid hne
          obtain ⟨b, off, rfl, hlt, hc⟩ := HCS.out (by simp)
          obtain ⟨a0, a1, a2, a3, a4⟩ := TkL.at hc (i := 0) rfl
          rw [Nat.zero_mul, Nat.add_zero] at a0 a1 a2 a3 a4
          have hbw : w.heap.size < b := HFAR.out b off rfl
          clear hc hLs hb2 hg hne h1
          obtain ⟨xk, xt, xq, xl, xc⟩ := x
          obtain ⟨yk, yt, yq, yl, yc⟩ := y
          by_cases n1 : yk = xk
          · by_cases n2 : yq = xq
            · have n3 : ¬ yt.toList = xt.toList := fun e => HNE.out ⟨n1, by
                rw [ByteArray.toList_eq, ByteArray.toList_eq] at e
                cases yt; cases xt; exact congrArg ByteArray.mk (Array.toList_inj.1 e), n2⟩
              have e3 : (yt.toList == xt.toList) = false := beq_eq_false_iff_ne.2 n3
              subst n1 n2
              clear n3
              go_wp2
              go_quiet (fail)
              go_wp2
              go_ret2
              exact ⟨below_drewN ((BX.out.setCell (p := ⟨w.heap.size, 3, none⟩) (Nat.le_refl _) _).setCell (p := ⟨w.heap.size, 4, none⟩) (Nat.le_refl _) _) _, .inr ⟨HN.out, rfl⟩⟩
            · have e2 : (yq == xq) = false := beq_eq_false_iff_ne.2 n2
              subst n1
              clear n2
              go_wp2
              go_quiet (fail)
              go_wp2
              go_ret2
              exact ⟨below_drewN ((BX.out.setCell (p := ⟨w.heap.size, 3, none⟩) (Nat.le_refl _) _).setCell (p := ⟨w.heap.size, 4, none⟩) (Nat.le_refl _) _) _, .inr ⟨HN.out, rfl⟩⟩
          · have e1 : (yk == xk) = false := beq_eq_false_iff_ne.2 n1
            clear n1
            go_wp2
            go_quiet (fail)
            go_wp2
            go_ret2
            exact ⟨below_drewN ((BX.out.setCell (p := ⟨w.heap.size, 3, none⟩) (Nat.le_refl _) _).setCell (p := ⟨w.heap.size, 4, none⟩) (Nat.le_refl _) _) _, .inr ⟨HN.out, rfl⟩⟩
        · have e1 : ((L.length : Int) != 1) = true := by rw [bne_iff_ne]; omega
          clear hg hLs hb2 h1
          go_wp2
          go_quiet (fail)
          go_wp2
          go_ret2
          exact ⟨below_drewN ((BX.out.setCell (p := ⟨w.heap.size, 3, none⟩) (Nat.le_refl _) _).setCell (p := ⟨w.heap.size, 4, none⟩) (Nat.le_refl _) _) _, .inr ⟨HN.out, rfl⟩⟩
    · have HN : Hid (¬ Good x) := Lib.hid (fun h => by have := scan_of_good h; rw [hbad] at this; cases this)
      have BX : Hid (Below w.heap.size w w2) := Lib.hid (HBW.out.trans (hb2.mono HBW.out.size))
      have hbk2 : w2.heap[w.heap.size]? = _ := (hb2.block _ (Array.getElem?_eq_some_iff.1 HK.out).1).trans HK.out
      obtain ⟨c0, c1, c2, c3, c4⟩ := blk5 hbk2
      obtain ⟨f0, f1, f2, f3, f4⟩ := frz5 hbk2
      have hE0 : ((E : Int) != 0) = true := by rw [bne_iff_ne]; omega
      clear hb2 hbad hE hbk2
      go_wp2
      go_quiet (fail)
      go_wp2
      go_ret2
      exact ⟨below_drewN ((BX.out.setCell (p := ⟨w.heap.size, 3, none⟩) (Nat.le_refl _) _).setCell (p := ⟨w.heap.size, 4, none⟩) (Nat.le_refl _) _) _, .inr ⟨HN.out, rfl⟩⟩
  · have SC := Lib.hid (scan_long (wrB x) (by omega) w1)
    have HN : Hid (¬ Good x) := Lib.hid (fun ⟨_, _, _, h, _⟩ => hs h)
    obtain ⟨c0, c1, c2, c3, c4⟩ := blk5 HK.out
    obtain ⟨f0, f1, f2, f3, f4⟩ := frz5 HK.out
    clear hs
    go_wp2_with (go_at_call 11; refine SC.out.mono ?_; rintro e w2 ⟨rfl, rfl⟩)
    go_quiet (fail)
    go_wp2
    go_ret2
    exact ⟨below_drewN ((HBW.out.setCell (p := ⟨w.heap.size, 3, none⟩) (Nat.le_refl _) _).setCell (p := ⟨w.heap.size, 4, none⟩) (Nat.le_refl _) _) _, .inr ⟨HN.out, rfl⟩⟩
end Go.Proofs.YtpkdiciinhjfjaaDoor

/- lexis: Join. -/
namespace Go.Proofs.YtpkdiciinhjfjaaDoor
open Go.RowKit Mth

/-- the blank ahead of a token -/
def sepL (pk : Option Int) (k : Int) : List UInt8 := match pk with
  | none => []
  | some p => if p ≠ 1 ∧ k ≠ 2 then [32] else []
def wrT (x : Tk) : List UInt8 := wrL x.k x.t.data.toList x.q
/-- tokens one behind the other -/
def catL : Option Int → List Tk → List UInt8
  | _, [] => []
  | pk, x :: r => sepL pk x.k ++ wrT x ++ catL (some x.k) r
def lastK : Option Int → List Tk → Option Int
  | pk, [] => pk
  | _, x :: r => lastK (some x.k) r
theorem cat_snoc : ∀ (L : List Tk) (pk : Option Int) (x : Tk), catL pk (L ++ [x]) = catL pk L ++ (sepL (lastK pk L) x.k ++ wrT x)
  | [], pk, x => by simp [catL, lastK]
  | y :: L, pk, x => by
    rw [List.cons_append, catL, catL, cat_snoc L, lastK]
    simp
theorem last_snoc : ∀ (L : List Tk) (pk : Option Int) (x : Tk), lastK pk (L ++ [x]) = some x.k
  | [], pk, x => rfl
  | y :: L, pk, x => by rw [List.cons_append, lastK, last_snoc L]
theorem cat_next {L : List Tk} {i : Nat} {x : Tk} (h : L[i]? = some x) : catL none (L.take (i + 1)) = catL none (L.take i) ++ (sepL (lastK none (L.take i)) x.k ++ wrT x) := by
  rw [List.take_add_one, h, Option.toList_some, cat_snoc]
theorem last_next {L : List Tk} {i : Nat} {x : Tk} (h : L[i]? = some x) : lastK none (L.take (i + 1)) = some x.k := by
  rw [List.take_add_one, h, Option.toList_some, last_snoc]
theorem cat_mono {L : List Tk} : ∀ (d i : Nat), (catL none (L.take i)).length ≤ (catL none (L.take (i + d))).length
  | 0, i => Nat.le_refl _
  | d + 1, i => by
    refine Nat.le_trans (cat_mono d i) ?_
    by_cases h : i + d < L.length
    · rw [show i + (d + 1) = i + d + 1 from rfl, cat_next (List.getElem?_eq_getElem h), List.length_append]; omega
    · rw [List.take_of_length_le (by omega), List.take_of_length_le (by omega)]; exact Nat.le_refl _
theorem sep_le (pk : Option Int) (k : Int) : (sepL pk k).length ≤ 1 := by
  unfold sepL
  split
  · simp
  · split <;> simp
theorem wrB_eq (x : Tk) : wrB x = ⟨(wrT x).toArray⟩ := rfl
theorem wrT_len (x : Tk) : (wrT x).length = (wrB x).size := (size_list _).symm

theorem own_shape {w : World} {base size n : Nat} {e : TypeId} {v : Value} {xs : List Value} (h : w.ownsRow base e size v n xs) : ∃ ao cap, v = .slice ao n cap ∧ (ao = none → n = 0 ∧ cap = 0) := by
  obtain ⟨h0, h1⟩ := h
  rcases h1 with ⟨rfl, rfl⟩ | ⟨g, cap, cur, rfl, _⟩
  · exact ⟨none, 0, rfl, fun _ => ⟨rfl, rfl⟩⟩
  · exact ⟨some ⟨g, 0, none⟩, cap, rfl, fun e => by cases e⟩
/-- the bytes of a text under construction -/
def bCells (D : List UInt8) : List Value := Lib.strCells ⟨D.toArray⟩
theorem bCells_app (D E : List UInt8) : bCells (D ++ E) = bCells D ++ bCells E := by simp [bCells, Lib.strCells]
theorem conv_own {w : World} {base : Nat} {v : Value} {D : List UInt8} (h : w.ownsRow base 5 1 v D.length (bCells D)) :
    (convert 79 9 v).run Tryd.prog w = .ok (.string ⟨D.toArray⟩) w := by
  have hc : ∀ {g : Nat}, v.ownBlock = some g → ∀ j u, (bCells D)[j]? = some u → w.cell? ((⟨g, 0, none⟩ : Addr).add j) = some u := fun hg => h.cells hg
  obtain ⟨h0, h1⟩ := h
  rcases h1 with ⟨rfl, h2⟩ | ⟨g, cap, cur, rfl, _⟩
  · have hD : D = [] := List.eq_nil_of_length_eq_zero h2
    subst hD
    clear hc h0 h2
    show (convert 79 9 (.slice none 0 0)).run Tryd.prog w = .ok (.string ⟨#[]⟩) w
    rw [run_convert_bytes_string w 79 9 5 none 0 0 Tryd.underlying79 Tryd.underlying5 Tryd.underlying9]
    rfl
  · refine run_convert_bytes_back w 79 9 5 ⟨g, 0, none⟩ cap D Tryd.underlying79 Tryd.underlying5 Tryd.underlying9 ?_
    intro j hj
    refine hc (g := g) rfl j _ ?_
    simp [bCells, Lib.strCells, hj]

theorem info_u8 : (Tryd.prog.info? 5).map (fun i => (i.zero, i.size, i.bytes)) = some (some (.int .u8 0), 1, 1) := by kernel_rfl
theorem append_blank {w : World} {ops : Array Oper} {rest : List Oper} {o : Oper} {a : Act} {Q : Exit → Act → World → Prop} (hgd : o.guard = none) (s x : Operand)
    (ho : o.op = .call { callee := .builtin .append, args := #[s, x], argTypes := #[79, 79] }) (base : Nat) (v : Value) (D : List UInt8) (b cap : Nat)
    (hs : a.eval s = v) (hx : a.eval x = .slice (some ⟨b, 0, none⟩) 1 cap) (hown : w.ownsRow base 5 1 v D.length (bCells D)) (hu : w.heap[b]? = some (.cells #[.int .u8 32] 5 (0, 0))) (hlen : D.length ≤ 4194304) (hbase : base ≤ w.heap.size)
    (h : ∀ v' w', w'.ownsRow base 5 1 v' (D ++ [32]).length (bCells (D ++ [32])) → w.grownBy w' v.ownBlock → wpList Tryd.prog ops Q rest (a.put o.dst v') w') : wpList Tryd.prog ops Q (o :: rest) a w := by
  obtain ⟨i0, hi, hz0, hz1, hz2⟩ := info_parts info_u8
  refine wpList_append_own w hgd s x 79 ho base 5 i0 _ 1 1 Tryd.underlying79 hi hz0 hz1 hz2 rfl (by decide) v _ _ hs hown ⟨b, 0, none⟩ 1 cap [.int .u8 32] hx rfl ?_ ?_
      (by unfold maxLen; omega) (by omega) hbase ?_
  · intro j u hj
    match j, hj with
    | 0, hj => obtain rfl := Option.some.inj hj; rw [Addr.add_lit, Nat.zero_add, cell_of_row _ b 0 _ _ (0, 0) hu]; rfl
    | j + 1, hj => simp at hj
  · intro u hu
    simp at hu
    rcases hu with rfl; rfl
  · intro v' w' h2 h3 _
    refine h v' w' ?_ h3
    rw [bCells_app, List.length_append]
    exact h2
theorem append_one {w : World} {ops : Array Oper} {rest : List Oper} {o : Oper} {a : Act} {Q : Exit → Act → World → Prop} (hgd : o.guard = none) (s x : Operand)
    (ho : o.op = .call { callee := .builtin .append, args := #[s, x], argTypes := #[79, 9] }) (base : Nat) (v : Value) (D E : List UInt8) (S : ByteArray) (hS : S = ⟨E.toArray⟩)
    (hs : a.eval s = v) (hx : a.eval x = .string S) (hown : w.ownsRow base 5 1 v D.length (bCells D)) (hlen : D.length + E.length ≤ 8388608) (hbase : base ≤ w.heap.size)
    (h : ∀ v' w', w'.ownsRow base 5 1 v' (D ++ E).length (bCells (D ++ E)) → w.grownBy w' v.ownBlock → wpList Tryd.prog ops Q rest (a.put o.dst v') w') : wpList Tryd.prog ops Q (o :: rest) a w := by
  obtain ⟨i0, hi, hz0, hz1, hz2⟩ := info_parts info_u8
  subst hS
  have hz : (⟨E.toArray⟩ : ByteArray).size = E.length := size_list E
  refine Lib.wpList_append_own_string w hgd s x 79 9 ho base 5 i0 Tryd.underlying79 Tryd.underlying9 hi hz0 hz1 hz2 v _ _ hs hown ⟨E.toArray⟩ hx (by unfold maxLen; omega) (by omega) hbase ?_
  intro v' w' h2 h3 _
  refine h v' w' ?_ h3
  rw [bCells_app, List.length_append]
  rw [hz] at h2
  exact h2
/-- the answer of Join -/
def JoinO (w w' : World) (L : List Tk) (e : Ending) : Prop :=
  Below w.heap.size w w' ∧ (((∀ x ∈ L, Good x) ∧ (catL none L).length ≤ 1048576 ∧ e = .returned (.tuple #[.string ⟨(catL none L).toArray⟩, .int .i64 0])) ∨
    ((∀ x ∈ L, Good x) ∧ 1048576 < (catL none L).length ∧ e = .returned (.tuple #[.string ⟨#[]⟩, .int .i64 2])) ∨ (¬ (∀ x ∈ L, Good x) ∧ e = .returned (.tuple #[.string ⟨#[]⟩, .int .i64 73])))
def JnR (w wr : World) (L : List Tk) (tv i : Value) : Prop := ∃ (k : Nat) (D : List UInt8), k ≤ L.length ∧ i = .int .i64 (k : Int) ∧ wr.ownsRow w.heap.size 5 1 tv D.length (bCells D) ∧ Below w.heap.size w wr ∧ D.length ≤ 4194304 ∧
  (∀ (j : Nat) (x : Tk), j < k → L[j]? = some x → Good x) ∧ (D = catL none (L.take k) ∨ (1048576 < D.length ∧ 1048576 < (catL none (L.take k)).length))
theorem good_all {L : List Tk} (h : ∀ (j : Nat) (x : Tk), j < L.length → L[j]? = some x → Good x) : ∀ x ∈ L, Good x := fun x hx => by
  obtain ⟨j, hj, e⟩ := List.mem_iff_getElem.1 hx
  exact h j x hj (by rw [List.getElem?_eq_getElem hj, e])
theorem good_wr {x : Tk} (h : Good x) : (wrT x).length ≤ 1048576 := by
  obtain ⟨_, _, _, h1, _⟩ := h
  rw [wrT_len]; exact h1
set_option maxHeartbeats 4000000 in
set_option maxRecDepth 100000 in
theorem join_any (L : List Tk) (v : Value) (w : World) (hL : LexW w) (hv : TkL w v L) (hlen : L.length ≤ 1048576) (ht : ∀ x ∈ L, x.t.size ≤ 1048576) : Calls Tryd.prog 15 #[v] w fun e w' => JoinO w w' L e := by
  have HTL := Lib.hid hv
  obtain ⟨ao, cap, rfl, hc⟩ := hv
  have HLW := Lib.hid hL
  have HT := Lib.hid ht
  clear hc hL ht
  go_enter Tryd.func15, Tryd.ntmps15
  go_wp2
  go_loopw [4, 11] (fun tv i wr => JnR w wr L tv i) (fun _ i _ => L.length - (intOf i).toNat)
  case atStart => exact ⟨0, [], Nat.zero_le _, rfl, World.ownsRow_nil _ _ _ _, Below.refl _ _, by simp, fun j x hj => by omega, .inl rfl⟩
  case round =>
    obtain ⟨k, D, hk, rfl, hown, hbel, hDl, hgd, hD⟩ := hrel
    have HOWN := Lib.hid hown; have HBEL := Lib.hid hbel; have HGD := Lib.hid hgd; have HD := Lib.hid hD
    obtain ⟨at_, ct, rfl, htn⟩ := own_shape hown
    clear hown hbel hgd hD htn
    by_cases hlt : k < L.length
    · have hx : L[k]? = some L[k] := List.getElem?_eq_getElem hlt
      have hxm : L[k] ∈ L := List.getElem_mem hlt
      have HTK := Lib.hid (HTL.out.below HBEL.out)
      have hne : L ≠ [] := fun e => by rw [e] at hlt; simp at hlt
      obtain ⟨ao', cap', he, hc⟩ := HTK.out
      obtain ⟨b, off, hb, hblt, hcc⟩ := hc hne
      injection he with he1 he2 he3
      rw [hb] at he1
      subst he1
      obtain ⟨a0, a1, a2, a3, a4⟩ := TkL.at hcc hx
      have HX := Lib.hid hx
      have hxt := HT.out _ hxm
      generalize L[k] = x at *
      have HCN := Lib.hid (cat_next HX.out)
      have HLA : Hid (∀ o, LexW (wr.alloc o)) := Lib.hid (fun o => HLW.out.below (HBEL.out.alloc HBEL.out.size o))
      have WRT : Hid (∀ o, Calls Tryd.prog 33 #[.agg #[.int .i64 x.k, .string x.t, .bool x.q, .int .i64 x.l, .int .i64 x.c]] (wr.alloc o) fun e w' => WriteO (wr.alloc o) w' x e) := Lib.hid (fun o => write_any x hxt _ (HLA.out o))
      have HBA : Hid (∀ o w1, Below (wr.alloc o).heap.size (wr.alloc o) w1 → Below w.heap.size w w1 ∧ w1.ownsRow w.heap.size 5 1 (.slice at_ D.length ct) D.length (bCells D) ∧ Below wr.heap.size wr w1 ∧ w1.heap[wr.heap.size]? = (wr.alloc o).heap[wr.heap.size]?) := Lib.hid (fun o w1 h =>
        ⟨(HBEL.out.alloc HBEL.out.size o).trans (h.mono (Nat.le_trans HBEL.out.size (by simp))), own_below (HOWN.out.alloc o) h, ((Below.refl _ _).alloc (Nat.le_refl _) o).trans (h.mono (by simp)), h.block _ (by simp)⟩)
      clear hx hxm hc hcc he2 he3 hxt
      go_wp2_with fail
      refine (WRT.out _).mono ?_
      rintro e w1 ⟨hb1, (⟨hg, rfl⟩ | ⟨hg, rfl⟩)⟩
      · have HG := Lib.hid hg
        have HW1 := Lib.hid (HBA.out _ _ hb1)
        have HGS : Hid (∀ (j : Nat) (y : Tk), j < k + 1 → L[j]? = some y → Good y) := Lib.hid (fun j y hj hy => by
          by_cases e : j = k
          · subst e; have := HX.out.symm.trans hy; obtain rfl := Option.some.inj this; exact hg
          · exact HGD.out j y (by omega) hy)
        have hwr := good_wr hg
        have hbk1 := HW1.out.2.2.2.trans (heap_alloc_new wr (Obj.cells #[.int .i64 x.k, .string x.t, .bool x.q, .int .i64 x.l, .int .i64 x.c] 34))
        obtain ⟨t0, t1, t2, t3, t4⟩ := blk5 hbk1
        obtain ⟨l0, l1, l2, l3, l4⟩ := (show w1.cell? ⟨b, off + k * 5, none⟩ = _ ∧ w1.cell? ⟨b, off + k * 5 + 1, none⟩ = _ ∧ w1.cell? ⟨b, off + k * 5 + 2, none⟩ = _ ∧ w1.cell? ⟨b, off + k * 5 + 3, none⟩ = _ ∧ w1.cell? ⟨b, off + k * 5 + 4, none⟩ = _ from ⟨(HW1.out.2.2.1.cell (p := ⟨b, off + k * 5, none⟩) hblt).trans a0, (HW1.out.2.2.1.cell (p := ⟨b, off + k * 5 + 1, none⟩) hblt).trans a1, (HW1.out.2.2.1.cell (p := ⟨b, off + k * 5 + 2, none⟩) hblt).trans a2, (HW1.out.2.2.1.cell (p := ⟨b, off + k * 5 + 3, none⟩) hblt).trans a3, (HW1.out.2.2.1.cell (p := ⟨b, off + k * 5 + 4, none⟩) hblt).trans a4⟩)
        clear hb1 hg hbk1
        by_cases hmax : 1048576 < D.length
        · have HD2 : Hid (1048576 < (catL none (L.take (k + 1))).length) := Lib.hid (by
            have hm := cat_mono (L := L) 1 k
            rcases HD.out with h | h
            · rw [← h] at hm; omega
            · have := h.2; omega)
          go_wp2
          go_roundw
          case rel => exact ⟨k + 1, D, by omega, by go_num, HW1.out.2.1, HW1.out.1, hDl, HGS.out, .inr ⟨hmax, HD2.out⟩⟩
          case measure => simp [intOf]; omega
        · have HDE : Hid (D = catL none (L.take k)) := Lib.hid (HD.out.resolve_right (fun h => hmax h.1))
          by_cases hk0 : k = 0
          · have HSEP : Hid (sepL (lastK none (L.take k)) x.k = []) := Lib.hid (by rw [hk0]; rfl)
            subst hk0
            have HNW : Hid (catL none (L.take (0 + 1)) = D ++ wrT x) := Lib.hid (by rw [HCN.out, ← HDE.out, HSEP.out, List.nil_append])
            have HLTO := Lib.hid HW1.out.2.1.lt
            have hmx : D.length ≤ 1048576 := Nat.le_of_not_lt hmax
            clear hmax
            go_wp2_with (at_builtin; refine append_one rfl (.tmp 49) (.tmp 50) rfl w.heap.size _ D (wrT x) (wrB x) rfl rfl rfl HW1.out.2.1 (by omega) HW1.out.1.size ?_; intro v3 w3 hown3 hgr3; have HO3 := Lib.hid hown3; have HG3 := Lib.hid hgr3; clear hown3 hgr3)
            go_roundw
            case rel => exact ⟨0 + 1, D ++ wrT x, by omega, by go_num, HO3.out, HW1.out.1.grown HG3.out HW1.out.1.size (fun kx hkx => (HLTO.out kx hkx).1), by rw [List.length_append]; omega, HGS.out, .inl HNW.out.symm⟩
            case measure => simp [intOf]; omega
          · obtain ⟨j, hj⟩ : ∃ j, k = j + 1 := ⟨k - 1, by omega⟩
            have hjl : j < L.length := by omega
            have hy : L[j]? = some L[j] := List.getElem?_eq_getElem hjl
            have HLAST : Hid (lastK none (L.take k) = some (L[j]).k) := Lib.hid (by rw [hj]; exact last_next hy)
            obtain ⟨ao2, cap2, he2, hc2⟩ := HTL.out
            obtain ⟨b2, off2, hb2, hblt2, hcc2⟩ := hc2 hne
            injection he2 with he4 he5 he6
            rw [hb2] at he4
            have he7 := Option.some.inj he4
            injection he7 with he8 he9
            subst he8 he9
            obtain ⟨y0, _⟩ := TkL.at hcc2 hy
            have y0' := (HW1.out.1.cell (p := ⟨b, off + j * 5, none⟩) hblt2).trans y0
            generalize L[j] = y at *
            subst hj
            clear hcc2 hc2 he4 hb2 he5 he6 y0 hy
            by_cases hy1 : y.k = 1
            · have HSEP : Hid (sepL (lastK none (L.take (j + 1))) x.k = []) := Lib.hid (by rw [HLAST.out]; unfold sepL; rw [hy1]; simp)
              rw [hy1] at y0'
              have HNW : Hid (catL none (L.take (j + 1 + 1)) = D ++ wrT x) := Lib.hid (by rw [HCN.out, ← HDE.out, HSEP.out, List.nil_append])
              have HLTO := Lib.hid HW1.out.2.1.lt
              have hmx : D.length ≤ 1048576 := Nat.le_of_not_lt hmax
              clear hmax
              go_wp2_with (at_builtin; refine append_one rfl (.tmp 49) (.tmp 50) rfl w.heap.size _ D (wrT x) (wrB x) rfl rfl rfl HW1.out.2.1 (by omega) HW1.out.1.size ?_; intro v3 w3 hown3 hgr3; have HO3 := Lib.hid hown3; have HG3 := Lib.hid hgr3; clear hown3 hgr3)
              go_roundw
              case rel => exact ⟨j + 1 + 1, D ++ wrT x, by omega, by go_num, HO3.out, HW1.out.1.grown HG3.out HW1.out.1.size (fun kx hkx => (HLTO.out kx hkx).1), by rw [List.length_append]; omega, HGS.out, .inl HNW.out.symm⟩
              case measure => simp [intOf]; omega
            · have ey1 : (y.k != 1) = true := bne_iff_ne.2 hy1
              by_cases hx2 : x.k = 2
              · have HSEP : Hid (sepL (lastK none (L.take (j + 1))) x.k = []) := Lib.hid (by rw [HLAST.out]; unfold sepL; rw [hx2]; simp)
                rw [hx2] at t0
                clear hy1
                have HNW : Hid (catL none (L.take (j + 1 + 1)) = D ++ wrT x) := Lib.hid (by rw [HCN.out, ← HDE.out, HSEP.out, List.nil_append])
                have HLTO := Lib.hid HW1.out.2.1.lt
                have hmx : D.length ≤ 1048576 := Nat.le_of_not_lt hmax
                clear hmax
                go_wp2_with (at_builtin; refine append_one rfl (.tmp 49) (.tmp 50) rfl w.heap.size _ D (wrT x) (wrB x) rfl rfl rfl HW1.out.2.1 (by omega) HW1.out.1.size ?_; intro v3 w3 hown3 hgr3; have HO3 := Lib.hid hown3; have HG3 := Lib.hid hgr3; clear hown3 hgr3)
                go_roundw
                case rel => exact ⟨j + 1 + 1, D ++ wrT x, by omega, by go_num, HO3.out, HW1.out.1.grown HG3.out HW1.out.1.size (fun kx hkx => (HLTO.out kx hkx).1), by rw [List.length_append]; omega, HGS.out, .inl HNW.out.symm⟩
                case measure => simp [intOf]; omega
              · have ex2 : (x.k != 2) = true := bne_iff_ne.2 hx2
                have HSEP : Hid (sepL (lastK none (L.take (j + 1))) x.k = [32]) := Lib.hid (by rw [HLAST.out]; unfold sepL; exact if_pos ⟨hy1, hx2⟩)
                clear hy1 hx2
                have HNW : Hid (catL none (L.take (j + 1 + 1)) = D ++ [32] ++ wrT x) := Lib.hid (by rw [HCN.out, ← HDE.out, HSEP.out, List.append_assoc])
                have HLTO := Lib.hid (HW1.out.2.1.alloc (Obj.cells #[.int .u8 32] 5)).lt
                have HOB := Lib.hid (HW1.out.2.1.alloc (Obj.cells #[.int .u8 32] 5))
                have HUB := Lib.hid (heap_alloc_new w1 (Obj.cells #[.int .u8 32] 5))
                have HBB : Hid (Below w.heap.size w (w1.alloc (Obj.cells #[.int .u8 32] 5))) := Lib.hid (HW1.out.1.alloc HW1.out.1.size _)
                have hl1 : (D ++ [(32 : UInt8)]).length = D.length + 1 := by simp
                have hmx : D.length ≤ 1048576 := Nat.le_of_not_lt hmax
                clear hmax
                go_wp2_with (first | (at_builtin; refine append_blank rfl (.tmp 46) (.tmp 47) rfl w.heap.size _ D w1.heap.size 1 rfl rfl HOB.out HUB.out (by omega) HBB.out.size ?_; intro v2 w2 hown2 hgr2; have HO2 := Lib.hid hown2; have HG2 := Lib.hid (HBB.out.grown hgr2 HBB.out.size (fun kx hkx => (HLTO.out kx hkx).1)); clear hown2 hgr2) | (at_builtin; refine append_one rfl (.tmp 49) (.tmp 50) rfl w.heap.size _ (D ++ [32]) (wrT x) (wrB x) rfl rfl rfl HO2.out (by rw [hl1]; omega) HG2.out.size ?_; intro v3 w3 hown3 hgr3; have HO3 := Lib.hid hown3; have HG3 := Lib.hid hgr3; clear hown3 hgr3))
                go_roundw
                case rel => exact ⟨j + 1 + 1, D ++ [32] ++ wrT x, by omega, by go_num, HO3.out, HG2.out.grown HG3.out HG2.out.size (fun kx hkx => (HO2.out.lt kx hkx).1), by rw [List.length_append, hl1]; omega, HGS.out, .inl HNW.out.symm⟩
                case measure => simp [intOf]; omega
      · have HN : Hid (¬ ∀ y ∈ L, Good y) := Lib.hid (fun h => hg (h x (List.mem_of_getElem? HX.out)))
        have HW1 := Lib.hid (HBA.out _ _ hb1)
        clear hb1 hg
        go_wp2
        go_ret2
        exact ⟨HW1.out.1, .inr (.inr ⟨HN.out, rfl⟩)⟩
    · obtain rfl : k = L.length := by omega
      have HGA := Lib.hid (good_all HGD.out)
      have HTA : Hid (L.take L.length = L) := Lib.hid (List.take_length ..)
      by_cases hmax : 1048576 < D.length
      · have HD2 : Hid (1048576 < (catL none L).length) := Lib.hid (by
          rcases HD.out with h | h
          · rw [HTA.out] at h; rw [← h]; exact hmax
          · rw [HTA.out] at h; exact h.2)
        go_wp2
        go_ret2
        exact ⟨HBEL.out, .inr (.inl ⟨HGA.out, HD2.out, rfl⟩)⟩
      · have HD2 : Hid (D = catL none L) := Lib.hid (by
          rcases HD.out with h | h
          · rw [HTA.out] at h; exact h
          · exact absurd h.1 hmax)
        have hcv := conv_own HOWN.out
        go_wp2
        go_ret2
        exact ⟨HBEL.out, .inl ⟨HGA.out, by rw [← HD2.out]; omega, by rw [← HD2.out]; rfl⟩⟩
end Go.Proofs.YtpkdiciinhjfjaaDoor

/- lexis: what is joined is read as the tokens, in plain mathematics. -/
namespace Go.Proofs.YtpkdiciinhjfjaaDoor
open Go.RowKit Mth

def tkq (x : Tk) : Int × ByteArray × Bool := (x.k, x.t, x.q)
theorem sameL_of_map {A B : List Tk} (h : B.map tkq = A.map tkq) : SameL false A B := by
  refine ⟨?_, fun i x y hx hy => ?_⟩
  · have := congrArg List.length h
    simpa using this.symm
  · have h1 : (A.map tkq)[i]? = some (tkq x) := by rw [List.getElem?_map, hx]; rfl
    have h2 : (B.map tkq)[i]? = some (tkq y) := by rw [List.getElem?_map, hy]; rfl
    rw [h, h1] at h2
    have := Option.some.inj h2
    unfold tkq at this
    injection this with a b
    injection b with b c
    exact ⟨a, b, c, fun h => by cases h⟩
theorem good_first {s : ByteArray} {q : Nat} {x : Tk} (hg : Good x) (hb : Byt s q (wrT x)) : 0 < (wrT x).length ∧ cb s q = cb (wrB x) 0 ∧ bBlank (cb s q) = false ∧ cb s q ≠ 59 := by
  obtain ⟨kn, hk, h0, hz, ho⟩ := hg
  have hl : 0 < (wrT x).length := by rw [wrT_len]; exact h0
  have e : cb s q = cb (wrB x) 0 := by
    have h1 := byt_at hb hl
    rw [Nat.add_zero] at h1
    rw [h1]; exact (cb_list (wrT x) 0 hl).symm
  have hf := shape_first h0 (shape_of h0 ho)
  exact ⟨hl, e, by rw [e]; exact hf.1, by rw [e]; exact hf.2⟩
/-- tokens in a text, one behind the other -/
inductive Chain (s : ByteArray) : Nat → List Tk → Prop
  | nil (p : Nat) : s.size ≤ skipF s p → Chain s p []
  | cons (p q : Nat) (x : Tk) (r : List Tk) : skipF s p = q → Good x → Byt s q (wrT x) → q + (wrT x).length ≤ s.size → (∀ kn : Nat, x.k = kn → Behind s (q + (wrT x).length) kn x.q) → Chain s (q + (wrT x).length) r → Chain s p (x :: r)
theorem chain_tok {s : ByteArray} {q : Nat} {x : Tk} (hg : Good x) (hb : Byt s q (wrT x)) (hs : q + (wrT x).length ≤ s.size) (hn : ∀ kn : Nat, x.k = kn → Behind s (q + (wrT x).length) kn x.q) :
    ∃ kn : Nat, x.k = kn ∧ oneF s q = .tok kn x.t x.q (q + (wrT x).length) := by
  obtain ⟨kn, hk, h0, hz, ho⟩ := hg
  have hl := wrT_len x
  have := tok_move (s := wrB x) (s' := s) (p := 0) (p' := q) h0 ho (by rw [← hl]; omega) (fun j hj => by
    rw [byt_at hb (by omega), Nat.zero_add]
    exact (cb_list (wrT x) j (by omega)).symm) (by rw [Nat.sub_zero, ← hl]; exact hn kn hk)
  rw [Nat.sub_zero, ← hl] at this
  exact ⟨kn, hk, this⟩
theorem chain_scan {s : ByteArray} {p : Nat} {L : List Tk} (h : Chain s p L) : ∃ M, scanF s p = .ok M ∧ M.map tkq = L.map tkq := by
  induction h with
  | nil p h => exact ⟨[], scan_end h, rfl⟩
  | cons p q x r h1 h2 h3 h4 h5 h6 ih =>
    obtain ⟨M, hM, hm⟩ := ih
    obtain ⟨kn, hk, ho⟩ := chain_tok h2 h3 h4 h5
    have hl := (good_first h2 h3).1
    refine ⟨⟨kn, x.t, x.q, lnAt s q, colAt s q⟩ :: M, ?_, ?_⟩
    · rw [scan_tok (p := p) (by rw [h1]; omega) (by rw [h1]; exact ho) (by rw [h1]; omega), h1, hM]; rfl
    · rw [List.map_cons, List.map_cons, hm]; unfold tkq; rw [hk]
theorem shape_two {s : ByteArray} {p k n : Nat} {t : ByteArray} {q : Bool} (h : Shape s p k t q n) (e : k = 2) : cb s p = 41 := by
  cases h <;> first | assumption | (cases e)
theorem good_two {x : Tk} (hg : Good x) (h : x.k = 2) : cb (wrB x) 0 = 41 := by
  obtain ⟨kn, hk, h0, hz, ho⟩ := hg
  obtain rfl : kn = 2 := by omega
  exact shape_two (shape_of h0 ho) rfl
theorem cat_chain {s : ByteArray} : ∀ (L : List Tk) (pk : Option Int) (p : Nat), (∀ x ∈ L, Good x) → Byt s p (catL pk L) → p + (catL pk L).length = s.size → Chain s p L
  | [], pk, p, _, _, h => .nil p (by rw [skip_end (by simp [catL] at h; omega)]; simp [catL] at h; omega)
  | x :: r, pk, p, hg, hb, hz => by
    have hgx := hg x (List.mem_cons_self ..)
    rw [catL] at hb hz
    obtain ⟨hb1, hb2⟩ := byt_app.1 hb
    obtain ⟨hb0, hb1⟩ := byt_app.1 hb1
    rw [List.length_append] at hb2
    rw [List.length_append, List.length_append] at hz
    have hq : skipF s p = p + (sepL pk x.k).length := by
      have hf := good_first hgx hb1
      have key : sepL pk x.k = [] ∨ sepL pk x.k = [32] := by
        unfold sepL
        split
        · exact .inl rfl
        · split
          · exact .inr rfl
          · exact .inl rfl
      rcases key with e | e
      · rw [e] at hf ⊢
        exact skip_here hf.2.2.1 hf.2.2.2
      · rw [e] at hf hb0 hz ⊢
        have h32 : cb s p = 32 := hb0.1
        rw [skip_blank (by simp at hz; omega) (by rw [h32]; rfl)]
        exact skip_here hf.2.2.1 hf.2.2.2
    have hb2' : Byt s (p + (sepL pk x.k).length + (wrT x).length) (catL (some x.k) r) := by rw [Nat.add_assoc]; exact hb2
    refine .cons p (p + (sepL pk x.k).length) x r hq hgx hb1 (by omega) (fun kn hk => ?_) ?_
    · cases r with
      | nil => exact .inl (by simp [catL] at hz; omega)
      | cons y r =>
        rw [catL] at hb2'
        obtain ⟨hc1, _⟩ := byt_app.1 hb2'
        obtain ⟨hc0, hc1⟩ := byt_app.1 hc1
        by_cases hx1 : x.k = 1
        · exact .inr (.inl (by omega))
        · by_cases hy2 : y.k = 2
          · have e : sepL (some x.k) y.k = [] := by unfold sepL; simp [hy2]
            rw [e] at hc1
            have hgy := hg y (List.mem_cons_of_mem _ (List.mem_cons_self ..))
            have hf := good_first hgy hc1
            have h41 := hf.2.1.trans (good_two hgy hy2)
            rw [List.length_nil, Nat.add_zero] at h41
            exact .inr (.inr (.inr (.inr ⟨by rw [h41]; rfl, fun _ => by rw [h41]; decide⟩)))
          · have e : sepL (some x.k) y.k = [32] := by unfold sepL; exact if_pos ⟨hx1, hy2⟩
            rw [e] at hc0
            have h32 := hc0.1
            exact .inr (.inr (.inr (.inr ⟨by rw [h32]; rfl, fun _ => by rw [h32]; decide⟩)))
    · exact cat_chain r (some x.k) _ (fun y hy => hg y (List.mem_cons_of_mem _ hy)) hb2' (by omega)
/-- scan of join -/
theorem scan_cat {L : List Tk} (hg : ∀ x ∈ L, Good x) : ∃ M, scanF ⟨(catL none L).toArray⟩ 0 = .ok M ∧ SameL false L M := by
  have h := cat_chain (s := ⟨(catL none L).toArray⟩) L none 0 hg (byt_self _) (by rw [size_list, Nat.zero_add])
  obtain ⟨M, hM, hm⟩ := chain_scan h
  exact ⟨M, hM, sameL_of_map hm⟩
/-- what was read is written, and not much longer -/
theorem scan_good {s : ByteArray} (hs : s.size ≤ 1048576) : ∀ {L : List Tk} {p : Nat}, scanF s p = .ok L → (∀ x ∈ L, Good x) ∧ ∀ pk, (catL pk L).length ≤ 2 * (s.size - p)
  | [], p, _ => ⟨fun x hx => by simp at hx, fun pk => by simp [catL]⟩
  | y :: L, p, h => by
    obtain ⟨k, t, q, n, h1, h2, h3, h4, h5, h6⟩ := scan_inv h
    have ih := scan_good hs h4
    have hg := skip_ge (s := s) s.size (p := p) (by omega)
    have hgy : Good y := by rw [h3]; exact good_tok h1 hs h2 _ _
    have hw : (wrT y).length = n - skipF s p := by rw [wrT_len, h3]; exact (one_wr h1 h2 _ _).2
    refine ⟨fun x hx => ?_, fun pk => ?_⟩
    · rcases List.mem_cons.1 hx with e | e
      · subst e; exact hgy
      · exact ih.1 x e
    · have h7 := ih.2 (some y.k)
      have h8 := sep_le pk y.k
      rw [catL, List.length_append, List.length_append]; omega
end Go.Proofs.YtpkdiciinhjfjaaDoor
