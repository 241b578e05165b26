/- PYP PYQ PZT. -/
import Derived.Test.YtnbnnkdepceciaaGreatDoorPG7
import Derived.StillTailTactics
set_option linter.unusedVariables false
set_option linter.unusedSimpArgs false
/- tribunalref07: write. -/
namespace Go.Proofs.YtnbnnkdepceciaaGreatDoor
open Go.RowKit Mth

theorem tailB_app (l m : List (List UInt8)) : tailB (l ++ m) = tailB l ++ tailB m := List.flatMap_append
theorem joinB_mono : ∀ (l : List (List UInt8)) (q : Nat), (joinB (l.take q)).length ≤ (joinB l).length
  | [], q => by simp [joinB]
  | x :: l, 0 => Nat.zero_le _
  | x :: l, q + 1 => by
    show (x ++ tailB (l.take q)).length ≤ (x ++ tailB l).length
    conv => rhs; rw [← List.take_append_drop q l, tailB_app]
    rw [List.length_append, List.length_append, List.length_append]; omega
theorem str_snoc (a b : List UInt8) : (⟨a.toArray⟩ : ByteArray) ++ ⟨b.toArray⟩ = ⟨(a ++ b).toArray⟩ := str_cat a b
theorem wrF_wrB {T : List Nd} {n : Nat} (hn : n < T.length) (h : T[n].kind = 1) : (⟨(wrF T n).toArray⟩ : ByteArray) = wrB T[n].tok := by rw [wrF_atom hn h]; rfl
set_option maxHeartbeats 8000000 in
set_option maxRecDepth 100000 in
theorem rwr_any {T : List Nd} (C : TabC T) (v : Value) (n : Nat) : Sound T n → (wrF T n).length ≤ 1048576 → ∀ w, SxL w v T → Calls Tryz.prog 31 #[v, .int .i64 (n : Int)] w fun e w' => e = .returned (.string ⟨(wrF T n).toArray⟩) ∧ Below w.heap.size w w' := by
  induction n using Nat.strongRecOn with
  | _ n ih =>
    intro hso hlen w h
    obtain ⟨hn, hs, hks⟩ := sound_snd hso
    have HC := Lib.hid C
    have HT := Lib.hid h
    have hN := C.N
    obtain ⟨ao, cap, rfl⟩ := h.shape
    obtain ⟨b, off, na, nc, rfl, hbl, c0, c1, c2, c3, c4, c5, c6, -⟩ := h.at hn
    rcases hs with ⟨k1, hg, -⟩ | ⟨k2, hkl⟩
    · have WR : Hid (Calls Tryz.prog 22 #[.agg #[.int .i64 (T[n]).tok.k, .string (T[n]).tok.t, .bool (T[n]).tok.q, .int .i64 (T[n]).tok.l, .int .i64 (T[n]).tok.c]] w fun e w' => e = .returned (.tuple #[.string (wrB (T[n]).tok), .int .i64 0]) ∧ Below w.heap.size w w') := Lib.hid ((rwrite_any (T[n]).tok (C.tok _ (List.getElem_mem hn)) w).mono (by
        rintro e w' ⟨hb, ⟨_, rfl⟩ | ⟨h, _⟩⟩
        · exact ⟨rfl, hb⟩
        · exact absurd hg h))
      have HW := Lib.hid (wrF_wrB hn k1)
      have d1 : ((T[n]).kind == 1) = true := by rw [k1]; rfl
      rw [HW.out]
      generalize T[n] = nd at *
      obtain ⟨kind, ⟨tk, tt, tq, tl, tc⟩, kids⟩ := nd
      clear h hso hlen hks ih k1 hg
      go_enter Tryz.func31, Tryz.ntmps31
      go_wp2_with fail
      refine WR.out.mono ?_
      rintro e w1 ⟨rfl, hb⟩
      have HB := Lib.hid hb
      clear hb
      go_wp2
      go_ret
      exact ⟨rfl, HB.out⟩
    · have d1 : ((T[n]).kind == 1) = false := by rw [k2]; rfl
      have HWF := Lib.hid (wrF_list hn k2 hkl)
      rw [kidsF_at hn, if_pos k2] at hks
      have hksl : T[n].kids.length ≤ 1048576 := C.kids _ (List.getElem_mem hn)
      obtain ⟨ks, hke⟩ : ∃ ks, T[n].kids = ks := ⟨_, rfl⟩
      have HKE := Lib.hid hke
      rw [hke] at hks hkl hksl HWF
      have hjl : (joinB (ks.map fun x => wrF T x.toNat)).length ≤ 1048576 := by
        rw [HWF.out, List.length_cons, List.length_append] at hlen; omega
      have HJ : Hid (∀ q, (joinB ((ks.take q).map fun x => wrF T x.toNat)).length ≤ 1048576) := Lib.hid (fun q => by
        have := joinB_mono (ks.map fun x => wrF T x.toNat) q
        rw [← List.map_take] at this; omega)
      have HKL := Lib.hid hkl
      have HIH : Hid (∀ y : Nat, (y : Int) ∈ ks → (wrF T y).length ≤ 1048576 → ∀ W, Below w.heap.size w W → Calls Tryz.prog 31 #[.slice (some ⟨b, off, none⟩) T.length cap, .int .i64 (y : Int)] W fun e w' => e = .returned (.string ⟨(wrF T y).toArray⟩) ∧ Below W.heap.size W w') := Lib.hid (fun y hy hl W hW => by
        have := hkl (y : Int) hy
        have hsy := hks (y : Int) hy
        rw [Int.toNat_natCast] at hsy
        exact ih y (by omega) hsy hl W (HT.out.below hW))
      have kd := k2
      generalize T[n].kind = kind at c0 d1
      rw [HWF.out]
      clear h hso hlen hks ih k2 kd hkl c1 c2 c3 c4 c5 c6 hke hjl HWF
      go_enter Tryz.func31, Tryz.ntmps31
      go_wp2_with fail
      go_loopw [7, 8] (fun s k wr => ∃ q : Nat, q ≤ ks.length ∧ k = .int .i64 (q : Int) ∧ s = .string ⟨(40 :: joinB ((ks.take q).map fun x => wrF T x.toNat)).toArray⟩ ∧ Below w.heap.size w wr) (fun _ k _ => ks.length - (intOf k).toNat)
      case atStart => exact ⟨0, Nat.zero_le _, rfl, rfl, Below.refl _ _⟩
      case round =>
        obtain ⟨q, hq, rfl, rfl, hbw⟩ := hrel
        have HBW := Lib.hid hbw
        obtain ⟨b', off', na', nc', eb, -, -, -, -, -, -, -, d6, hkv⟩ := (HT.out.below hbw).at hn
        simp only [Option.some.injEq, Addr.mk.injEq, and_true] at eb
        obtain ⟨rfl, rfl⟩ := eb
        rw [HKE.out] at d6 hkv
        have HKV := Lib.hid hkv
        clear hkv hbw
        by_cases hqk : q < ks.length
        · have hkx := List.getElem?_eq_getElem hqk
          have hx := HKL.out ks[q] (List.getElem_mem hqk)
          have hmem := List.getElem_mem hqk
          obtain ⟨y, hy⟩ : ∃ y : Nat, ks[q] = (y : Int) := ⟨ks[q].toNat, by omega⟩
          have hsn : (ks.take (q + 1)).map (fun x => wrF T x.toNat) = (ks.take q).map (fun x => wrF T x.toNat) ++ [wrF T y] := by
            rw [List.take_succ_eq_append_getElem hqk, List.map_append, hy]; rfl
          have hj1 := HJ.out (q + 1)
          rw [hsn] at hj1
          have hwl : (wrF T y).length ≤ 1048576 := by
            rw [joinB_snoc] at hj1
            split at hj1
            · exact hj1
            · rw [List.length_append, List.length_cons] at hj1; omega
          have IH := Lib.hid (HIH.out y (by rw [← hy]; exact hmem) hwl wr HBW.out)
          have HS2 : Hid (∀ A, A = (ks.take q).map (fun x => wrF T x.toNat) → (40 :: joinB ((ks.take (q + 1)).map fun x => wrF T x.toNat) : List UInt8) = if A = [] then 40 :: wrF T y else (40 :: joinB A) ++ [32] ++ wrF T y) := Lib.hid (fun A hA => by
            subst hA
            rw [hsn, joinB_snoc]
            split
            · rfl
            · simp)
          obtain ⟨ao1, cap1, ee, hc1⟩ := HKV.out
          obtain ⟨b1, o1, x1, -, hcc1⟩ := hc1 (fun e => by rw [e] at hqk; simp at hqk)
          simp only [Value.slice.injEq] at ee
          obtain ⟨rfl, -, -⟩ := ee
          subst x1
          have k1 := hcc1 q _ hkx
          rw [hy] at k1
          have HSZ : Hid (∀ l : List UInt8, (⟨l.toArray⟩ : ByteArray).size = l.length) := Lib.hid (fun l => size_list l)
          have HY : Hid ((⟨(wrF T y).toArray⟩ : ByteArray).size ≤ 1048576) := Lib.hid (by rw [HSZ.out]; exact hwl)
          by_cases h0 : q = 0
          · subst h0
            have HS3 : Hid ((⟨(40 :: joinB ((ks.take (0 + 1)).map fun x => wrF T x.toNat)).toArray⟩ : ByteArray) = ⟨#[40]⟩ ++ ⟨(wrF T y).toArray⟩) := Lib.hid (by rw [HS2.out _ rfl]; exact (str_snoc [40] (wrF T y)).symm)
            have e0 : (⟨(40 :: joinB ((ks.take 0).map fun x => wrF T x.toNat)).toArray⟩ : ByteArray) = ⟨#[40]⟩ := rfl
            have e1 : ((0 : Nat) : Int) = 0 := rfl
            have e2 : o1 + 0 = o1 := rfl
            rw [e2] at k1
            rw [e0]
            try rw [e1]
            obtain ⟨Y, hYe⟩ : ∃ Y : ByteArray, ⟨(wrF T y).toArray⟩ = Y := ⟨_, rfl⟩
            rw [hYe] at IH HS3 HY
            have hys := HY.out
            clear hkx hx hmem hy hsn hj1 hwl hc1 hcc1 HSZ HS2 hYe
            go_wp2_with fail
            refine IH.out.mono ?_
            rintro e w2 ⟨rfl, hb2⟩
            have HB2 := Lib.hid (belowT HBW.out hb2)
            clear hb2 IH
            go_wp2
            go_roundw
            case rel => exact ⟨1, by omega, rfl, by rw [← HS3.out], HB2.out⟩
            case measure => (simp [intOf]; try omega)
          · have hne : (ks.take q).map (fun x => wrF T x.toNat) ≠ [] := fun e => by
              have := congrArg List.length e
              rw [List.length_map, List.length_take, List.length_nil] at this
              omega
            have HS3 : Hid ((⟨(40 :: joinB ((ks.take (q + 1)).map fun x => wrF T x.toNat)).toArray⟩ : ByteArray) = ⟨(40 :: joinB ((ks.take q).map fun x => wrF T x.toNat)).toArray⟩ ++ ⟨#[32]⟩ ++ ⟨(wrF T y).toArray⟩) := Lib.hid (by
              rw [HS2.out _ rfl, if_neg hne]
              rw [← str_snoc, ← str_snoc])
            have hs1 : (⟨(40 :: joinB ((ks.take q).map fun x => wrF T x.toNat)).toArray⟩ : ByteArray).size ≤ 1048577 := by
              rw [HSZ.out, List.length_cons]; have := HJ.out q; omega
            have hs2 : ((⟨(40 :: joinB ((ks.take q).map fun x => wrF T x.toNat)).toArray⟩ : ByteArray) ++ ⟨#[32]⟩).size ≤ 1048578 := by
              rw [ByteArray.size_append]; show _ + 1 ≤ _; omega
            have d4 : decide ((0 : Int) < (q : Int)) = true := decide_eq_true (by omega)
            have d4' : decide (0 < q) = true := decide_eq_true (by omega)
            obtain ⟨Y, hYe⟩ : ∃ Y : ByteArray, ⟨(wrF T y).toArray⟩ = Y := ⟨_, rfl⟩
            rw [hYe] at IH HS3 HY
            obtain ⟨S, hSe⟩ : ∃ S : ByteArray, (⟨(40 :: joinB ((ks.take q).map fun x => wrF T x.toNat)).toArray⟩ : ByteArray) = S := ⟨_, rfl⟩
            rw [hSe] at HS3 hs1 hs2 ⊢
            have hys := HY.out
            clear hkx hx hmem hy hsn hj1 hwl hc1 hcc1 HSZ HS2 hYe hne hSe
            go_wp2_with fail
            refine IH.out.mono ?_
            rintro e w2 ⟨rfl, hb2⟩
            have HB2 := Lib.hid (belowT HBW.out hb2)
            clear hb2 IH
            go_wp2
            go_roundw
            case rel => exact ⟨q + 1, by omega, by go_num, by rw [← HS3.out], HB2.out⟩
            case measure => (simp [intOf]; try omega)
        · obtain rfl : q = ks.length := by omega
          have HJ2 := HJ.out ks.length
          rw [List.take_length] at HJ2 ⊢
          have HE : Hid ((⟨(40 :: (joinB (ks.map fun x => wrF T x.toNat) ++ [41])).toArray⟩ : ByteArray) = ⟨(40 :: joinB (ks.map fun x => wrF T x.toNat)).toArray⟩ ++ ⟨#[41]⟩) := Lib.hid (by
            rw [str_snoc (40 :: joinB (ks.map fun x => wrF T x.toNat)) [41]]; rfl)
          have hs1 : (⟨(40 :: joinB (ks.map fun x => wrF T x.toNat)).toArray⟩ : ByteArray).size ≤ 1048577 := by
            rw [size_list, List.length_cons]; omega
          generalize (⟨(40 :: joinB (ks.map fun x => wrF T x.toNat)).toArray⟩ : ByteArray) = S at *
          clear HJ2
          go_wp2
          go_ret
          exact ⟨by rw [HE.out]; rfl, HBW.out⟩
end Go.Proofs.YtnbnnkdepceciaaGreatDoor

/- tribunalref07: Sizes, Text; SexpTexts: the walk. -/
namespace Go.Proofs.YtnbnnkdepceciaaGreatDoor
open Go.RowKit Mth

/-- a list's size behind q of its kids -/
def szK (m : List Int) (ks : List Int) : Nat → Int
  | 0 => 2
  | q + 1 => min (szK m ks q + (if q = 0 then 0 else 1) + (m[((ks[q]?).getD 0).toNat]?).getD 0) 1048577
structure SizI (T : List Nd) (m : List Int) (r i : Nat) : Prop where
  len : m.length = r + 1
  val : ∀ x (h : x < m.length), x < i → Sound T x → SzOf m[x] (wrF T x).length
  bnd : ∀ x (h : x < m.length), 0 ≤ m[x] ∧ m[x] ≤ 1048577
theorem siz_start (T : List Nd) (r : Nat) : SizI T (List.replicate (r + 1) 0) r 0 := ⟨by simp, fun x _ h => by omega, fun x h => by simp⟩
theorem getB {m : List Int} (hb : ∀ x (h : x < m.length), 0 ≤ m[x] ∧ m[x] ≤ 1048577) (x : Nat) : 0 ≤ (m[x]?).getD 0 ∧ (m[x]?).getD 0 ≤ 1048577 := by
  rcases Nat.lt_or_ge x m.length with h | h
  · rw [List.getElem?_eq_getElem h, Option.getD_some]; exact hb x h
  · rw [List.getElem?_eq_none h, Option.getD_none]; omega
theorem szK_bnd {m : List Int} {ks : List Int} (hb : ∀ x (h : x < m.length), 0 ≤ m[x] ∧ m[x] ≤ 1048577) : ∀ q, 2 ≤ szK m ks q ∧ szK m ks q ≤ 1048577
  | 0 => by
    show (2 : Int) ≤ 2 ∧ (2 : Int) ≤ 1048577
    decide
  | q + 1 => by
    have h1 := szK_bnd (ks := ks) hb q
    have h2 := getB hb ((ks[q]?).getD 0).toNat
    show 2 ≤ min _ _ ∧ min _ _ ≤ (1048577 : Int)
    split <;> omega
theorem szK_of {T : List Nd} {m : List Int} {ks : List Int} (hk : ∀ x ∈ ks, SzOf ((m[x.toNat]?).getD 0) (wrF T x.toNat).length) : ∀ q, q ≤ ks.length → SzOf (szK m ks q) ((joinB ((ks.take q).map fun x => wrF T x.toNat)).length + 2)
  | 0, _ => ⟨by show (0 : Int) ≤ 2; decide, fun _ => rfl, fun h => by simp [joinB] at h⟩
  | q + 1, hq => by
    have h1 := szK_of hk q (by omega)
    have hx := hk ks[q] (List.getElem_mem hq)
    rw [List.take_succ_eq_append_getElem hq, List.map_append, List.map_singleton, joinB_snoc]
    unfold szK
    rw [List.getElem?_eq_getElem hq, Option.getD_some]
    unfold SzOf at *
    by_cases h0 : q = 0
    · subst h0
      rw [if_pos rfl, if_pos (by simp)]
      have e : (joinB ((ks.take 0).map fun x => wrF T x.toNat)).length = 0 := rfl
      rw [e] at h1
      refine ⟨by omega, fun h => by omega, fun h => by omega⟩
    · have hne : (ks.take q).map (fun x => wrF T x.toNat) ≠ [] := fun e => by
        have := congrArg List.length e
        rw [List.length_map, List.length_take, List.length_nil] at this
        omega
      rw [if_neg h0, if_neg hne, List.length_append, List.length_cons]
      refine ⟨by omega, fun h => by omega, fun h => by omega⟩
theorem siz_skip {T : List Nd} {m : List Int} {r i : Nat} (h : SizI T m r i) (hv : ¬ Sound T i) : SizI T m r (i + 1) := by
  refine ⟨h.len, fun x hx hi hs => ?_, h.bnd⟩
  rcases Nat.lt_or_ge x i with h' | h'
  · exact h.val x hx h' hs
  · obtain rfl : x = i := by omega
    exact absurd hs hv
theorem siz_set {T : List Nd} {m : List Int} {r i : Nat} {a : Int} (h : SizI T m r i) (h1 : 0 ≤ a ∧ a ≤ 1048577) (hv : Sound T i → SzOf a (wrF T i).length) : SizI T (m.set i a) r (i + 1) := by
  refine ⟨by rw [List.length_set, h.len], fun x hx hi hs => ?_, fun x hx => ?_⟩
  · rw [List.length_set] at hx
    by_cases e : i = x
    · subst e; rw [List.getElem_set_self]; exact hv hs
    · rw [List.getElem_set_ne e]; exact h.val x hx (by omega) hs
  · rw [List.length_set] at hx
    by_cases e : i = x
    · subst e; rw [List.getElem_set_self]; exact h1
    · rw [List.getElem_set_ne e]; exact h.bnd x hx
theorem siz_atom {T : List Nd} {m : List Int} {r i : Nat} (h : SizI T m r i) (hi : i < T.length) (k1 : T[i].kind = 1) (hg : Good T[i].tok) : SizI T (m.set i ((wrB T[i].tok).size : Int)) r (i + 1) := by
  refine siz_set h ⟨by omega, by have := good_sz hg; omega⟩ (fun _ => ?_)
  rw [wrF_atom hi k1, wrT_len]
  exact ⟨by omega, fun _ => rfl, fun h => by omega⟩
theorem siz_list {T : List Nd} {m : List Int} {r i : Nat} (h : SizI T m r i) (hi : i < T.length) (hir : i ≤ r) (k2 : T[i].kind = 2) (hs : SndN T[i] i) : SizI T (m.set i (szK m T[i].kids T[i].kids.length)) r (i + 1) := by
  have hb := szK_bnd (ks := T[i].kids) h.bnd T[i].kids.length
  have hkl := kidsF_lt hi hs
  rw [kidsF_at hi, if_pos k2] at hkl
  refine siz_set h ⟨by omega, hb.2⟩ (fun hso => ?_)
  have h2 := szK_of (T := T) (m := m) (ks := T[i].kids) (fun x hx => by
    obtain ⟨_, _, hks⟩ := sound_snd hso
    have := hkl x hx
    have hxl : x.toNat < m.length := by rw [h.len]; omega
    rw [List.getElem?_eq_getElem hxl, Option.getD_some]
    exact h.val x.toNat hxl (by omega) (hks x (by rw [kidsF_at hi, if_pos k2]; exact hx))) T[i].kids.length (Nat.le_refl _)
  rw [List.take_length] at h2
  rw [wrF_list hi k2 hkl, List.length_cons, List.length_append]
  exact h2
def SizR (w wr : World) (T : List Nd) (r : Nat) (i : Value) : Prop := ∃ (j : Nat) (m : List Int), j ≤ r + 1 ∧ i = .int .i64 (j : Int) ∧ SizI T m r j ∧ IlW wr w.heap.size m ∧ Below w.heap.size w wr
theorem siz_rel {w wr : World} {T : List Nd} {r i : Nat} {m : List Int} (hi : i ≤ r + 1) (h : SizI T m r i) (hb : IlW wr w.heap.size m) (hl : Below w.heap.size w wr) {v : Int} (hv : v = (i : Int)) : SizR w wr T r (.int .i64 v) := ⟨i, m, hi, by rw [hv], h, hb, hl⟩
set_option maxHeartbeats 16000000 in
set_option maxRecDepth 100000 in
theorem rsizes_in {T : List Nd} (C : TabC T) (v : Value) (r : Nat) (w : World) (h : SxL w v T) (hr : r < T.length) :
    Calls Tryz.prog 30 #[v, .int .i64 (r : Int)] w fun e w' => ∃ g m, e = .returned (.slice (some ⟨g, 0, none⟩) (r + 1) (r + 1)) ∧ IlW w' g m ∧ SizI T m r (r + 1) ∧ Below w.heap.size w w' := by
  have HC := Lib.hid C
  have HT := Lib.hid h
  have hN := C.N
  obtain ⟨ao, cap, rfl⟩ := h.shape
  have e1 : wrap64 ((r : Int) + 1) = ((r + 1 : Nat) : Int) := IntWalk.wrap64_in _ (by omega)
  clear h C
  go_enter Tryz.func30, Tryz.ntmps30
  go_wp2_with (at_make; refine make_ints rfl _ _ rfl _ _ (r + 1) rfl rfl (by omega) (by omega) (by omega) ?_; intro w1 hrow hb1; have HROW := Lib.hid hrow; have HB1 := Lib.hid hb1; clear hrow hb1)
  go_loopw [6] (fun i wr => SizR w wr T r i) (fun i _ => (r + 1 : Nat) - (intOf i).toNat)
  case atStart => exact ⟨0, _, Nat.zero_le _, rfl, siz_start T r, HROW.out, HB1.out⟩
  case round =>
    obtain ⟨i, m, hj, rfl, hI, hB, hbel⟩ := hrel
    have HI := Lib.hid hI; have HB := Lib.hid hB; have HBE := Lib.hid hbel
    by_cases hir : i ≤ r
    · have hi : i < T.length := by omega
      have himl : i < m.length := by rw [hI.len]; omega
      have hir1 : i < r + 1 := by omega
      have HML : Hid (m.length = r + 1) := Lib.hid hI.len
      have hTW := HT.out.below hbel
      have SD := Lib.hid (rsound_any _ T i wr hTW hi (HC.out.tok _ (List.getElem_mem hi)) (HC.out.kids _ (List.getElem_mem hi)))
      clear hI hB hbel hTW
      go_wp2_with fail
      refine SD.out.mono ?_
      rintro e w2 ⟨⟨hs, rfl⟩ | ⟨hs, rfl⟩, hb2⟩
      · have HBE2 := Lib.hid (HBE.out.trans (hb2.mono HBE.out.size))
        have HB2 := Lib.hid (HB.out.keeps (Keeps.of_below hb2) trivial)
        have hT2 := HT.out.below HBE2.out
        obtain ⟨b, off, na, nc, rfl, hbl, c0, c1, c2, c3, c4, c5, c6, -⟩ := hT2.at hi
        have HSN := Lib.hid hs
        clear hb2 SD hT2
        rcases hs with ⟨k1, hg, -⟩ | ⟨k2, hkl⟩
        · have HN := Lib.hid (siz_atom HI.out hi k1 hg)
          have hsz := good_sz hg
          have WR : Hid (Calls Tryz.prog 22 #[.agg #[.int .i64 (T[i]).tok.k, .string (T[i]).tok.t, .bool (T[i]).tok.q, .int .i64 (T[i]).tok.l, .int .i64 (T[i]).tok.c]] w2 fun e w' => e = .returned (.tuple #[.string (wrB (T[i]).tok), .int .i64 0]) ∧ Below w2.heap.size w2 w') := Lib.hid ((rwrite_any (T[i]).tok (HC.out.tok _ (List.getElem_mem hi)) w2).mono (by
            rintro e w' ⟨hb, ⟨_, rfl⟩ | ⟨h, _⟩⟩
            · exact ⟨rfl, hb⟩
            · exact absurd hg h))
          have d1 : ((T[i]).kind == 1) = true := by rw [k1]; rfl
          obtain ⟨W, hW⟩ : ∃ W, wrB T[i].tok = W := ⟨_, rfl⟩
          rw [hW] at WR hsz HN
          generalize T[i] = nd at *
          obtain ⟨kind, ⟨tk, tt, tq, tl, tc⟩, kids⟩ := nd
          clear k1 hg c6 hW
          go_wp2_with fail
          refine WR.out.mono ?_
          rintro e w3 ⟨rfl, hb3⟩
          have HBE3 := Lib.hid (HBE2.out.trans (hb3.mono HBE2.out.size))
          have HB3 := Lib.hid (HB2.out.keeps (Keeps.of_below hb3) trivial)
          obtain ⟨g1, g2⟩ := HB3.out.at himl
          generalize m[i] = mi at g1
          have d2 : decide ((1048576 : Int) < (W.size : Int)) = false := decide_eq_false (by omega)
          have d2' : decide (1048576 < W.size) = false := decide_eq_false (by omega)
          clear hb3 WR c0 c1 c2 c3 c4 c5
          go_wp2
          go_roundw
          case rel => exact siz_rel (i := i + 1) (by omega) HN.out HB3.out.set (HBE3.out.setCell (Nat.le_refl _) _) (by omega)
          case measure => (simp [intOf]; try omega)
        · have HN := Lib.hid (siz_list HI.out hi hir k2 HSN.out)
          have d1 : ((T[i]).kind == 1) = false := by rw [k2]; rfl
          have hksl : T[i].kids.length ≤ 1048576 := HC.out.kids _ (List.getElem_mem hi)
          obtain ⟨ks, hks⟩ : ∃ ks, T[i].kids = ks := ⟨_, rfl⟩
          have HKS := Lib.hid hks
          rw [hks] at HN hksl hkl
          have HKL := Lib.hid hkl
          have HSZ : Hid (∀ q, 2 ≤ szK m ks q ∧ szK m ks q ≤ 1048577) := Lib.hid (fun q => szK_bnd HI.out.bnd q)
          have HMB := Lib.hid HI.out.bnd
          obtain ⟨g1, g2⟩ := HB2.out.at himl
          generalize hmi : m[i] = mi at g1
          generalize T[i].kind = kd at *
          clear k2 c1 c2 c3 c4 c5 hks hkl hmi c6
          go_wp2_with fail
          go_loopw [9] (fun k wr => ∃ q : Nat, q ≤ ks.length ∧ k = .int .i64 (q : Int) ∧ IlW wr w.heap.size (m.set i (szK m ks q)) ∧ Below w.heap.size w wr) (fun k _ => ks.length - (intOf k).toNat)
          case atStart => exact ⟨0, Nat.zero_le _, rfl, HB2.out.set, HBE2.out.setCell (Nat.le_refl _) _⟩
          case round =>
            obtain ⟨q, hq, rfl, hBq, hbq⟩ := hrel
            have HBQ := Lib.hid hBq; have HBEQ := Lib.hid hbq
            obtain ⟨b', off', na', nc', eb, hbl', d0, -, -, -, -, -, d6, hkv⟩ := (HT.out.below hbq).at hi
            simp only [Option.some.injEq, Addr.mk.injEq, and_true] at eb
            obtain ⟨rfl, rfl⟩ := eb
            rw [HKS.out] at d6 hkv
            obtain ⟨g3, g4⟩ := hBq.at (i := i) (by rw [List.length_set]; exact himl)
            rw [List.getElem_set_self] at g3
            have hab := HSZ.out q
            by_cases hqk : q < ks.length
            · have hkx := List.getElem?_eq_getElem hqk
              have hx := HKL.out ks[q] (List.getElem_mem hqk)
              obtain ⟨y, hy⟩ : ∃ y : Nat, ks[q] = (y : Int) := ⟨ks[q].toNat, by omega⟩
              have hyl : y < m.length := by rw [HML.out]; omega
              have hyr : y < r + 1 := by omega
              have hyi : ¬ y = i := by omega
              have u1 : (0 : Int) ≤ (i : Int) := by omega
              have u2 : (i : Int) < (r : Int) + 1 := by omega
              have u3 : (i : Int) < (T.length : Int) := by omega
              have u4 : (0 : Int) ≤ (q : Int) := by omega
              have u5 : (q : Int) < (ks.length : Int) := by omega
              have u6 : (0 : Int) ≤ (y : Int) := by omega
              have u7 : (y : Int) < (r : Int) + 1 := by omega
              have hiy : ¬ i = y := by omega
              obtain ⟨g5, -⟩ := hBq.at (i := y) (by rw [List.length_set]; exact hyl)
              rw [List.getElem_set_ne hiy] at g5
              have hbb := HMB.out y hyl
              have HSTEP : Hid (szK m ks (q + 1) = min (szK m ks q + (if q = 0 then 0 else 1) + m[y]) 1048577) := Lib.hid (by
                show min (szK m ks q + (if q = 0 then 0 else 1) + (m[((ks[q]?).getD 0).toNat]?).getD 0) 1048577 = _
                rw [hkx, Option.getD_some, hy, Int.toNat_natCast, List.getElem?_eq_getElem hyl, Option.getD_some])
              obtain ⟨ao1, cap1, ee, hc1⟩ := hkv
              obtain ⟨b1, o1, x1, -, hcc1⟩ := hc1 (fun e => by rw [e] at hqk; simp at hqk)
              simp only [Value.slice.injEq] at ee
              obtain ⟨rfl, -, -⟩ := ee
              subst x1
              have k1 := hcc1 q _ hkx
              rw [hy] at k1
              generalize hmy : m[y] = b at g5 hbb HSTEP
              have HMY := Lib.hid hmy
              clear hmy
              by_cases h0 : q = 0
              · subst h0
                generalize szK m ks 0 = a at *
                rw [if_pos rfl, Int.add_zero] at HSTEP
                have e3 : wrap64 (a + b) = a + b := IntWalk.wrap64_in _ (by omega)
                have e4 : ((0 : Nat) : Int) = 0 := rfl
                have e5 : o1 + 0 = o1 := rfl
                rw [e5] at k1
                try rw [e4]
                clear hBq hbq hkx hx hc1 hcc1 hy
                by_cases hbig : 1048576 < a + b
                · have d5 : decide ((1048576 : Int) < (a + b)) = true := decide_eq_true hbig
                  have HST2 : Hid (szK m ks (0 + 1) = 1048577) := Lib.hid (by rw [HSTEP.out]; omega)
                  clear hbig
                  go_wp2_with fail
                  go_still_tail 19, (by kernel_rfl)
                  go_wp2
                  go_roundw
                  case rel => exact ⟨1, by omega, rfl, by rw [HST2.out]; have h := ((HBQ.out.set (i := i) (x := (a + b))).set (i := i) (x := 1048577)).keeps (keeps_drew _ (fun _ => True)) trivial; simpa only [List.set_set] using h, ((HBEQ.out.setCell (Nat.le_refl _) _).setCell (Nat.le_refl _) _).drew⟩
                  case measure => (simp [intOf]; try omega)
                · have d5 : decide ((1048576 : Int) < (a + b)) = false := decide_eq_false hbig
                  have HST2 : Hid (szK m ks (0 + 1) = (a + b)) := Lib.hid (by rw [HSTEP.out]; omega)
                  clear hbig
                  go_wp2_with fail
                  go_still_tail 19, (by kernel_rfl)
                  go_wp2
                  go_roundw
                  case rel => exact ⟨1, by omega, rfl, by rw [HST2.out]; have h := (HBQ.out.set (i := i) (x := (a + b))).keeps (keeps_drew _ (fun _ => True)) trivial; simpa only [List.set_set] using h, (HBEQ.out.setCell (Nat.le_refl _) _).drew⟩
                  case measure => (simp [intOf]; try omega)
              · rw [if_neg h0] at HSTEP
                generalize szK m ks q = a at *
                have e2 : wrap64 (a + 1) = a + 1 := IntWalk.wrap64_in _ (by omega)
                have e3 : wrap64 (a + 1 + b) = a + 1 + b := IntWalk.wrap64_in _ (by omega)
                have d4 : decide ((0 : Int) < (q : Int)) = true := decide_eq_true (by omega)
                have d4' : decide (0 < q) = true := decide_eq_true (by omega)
                clear hBq hbq hx hc1 hcc1
                go_wp2_with fail
                obtain ⟨W2, eW2⟩ : ∃ W2, wr.setCell ⟨w.heap.size, i, none⟩ (.int .i64 (a + 1)) = W2 := ⟨_, rfl⟩
                rw [eW2]
                have hI2 : IlW W2 w.heap.size ((m.set i a).set i (a + 1)) := eW2 ▸ HBQ.out.set
                have hB2 : Below w.heap.size w W2 := eW2 ▸ HBEQ.out.setCell (Nat.le_refl _) _
                rw [List.set_set] at hI2
                have HI2 := Lib.hid hI2; have HBW2 := Lib.hid hB2
                obtain ⟨g6, g7⟩ := hI2.at (i := i) (by rw [List.length_set]; exact himl)
                rw [List.getElem_set_self] at g6
                obtain ⟨g8, -⟩ := hI2.at (i := y) (by rw [List.length_set]; exact hyl)
                rw [List.getElem_set_ne hiy, HMY.out] at g8
                obtain ⟨b'', off'', na'', nc'', eb, hbl'', -, -, -, -, -, -, d7, hkv2⟩ := (HT.out.below hB2).at hi
                simp only [Option.some.injEq, Addr.mk.injEq, and_true] at eb
                obtain ⟨rfl, rfl⟩ := eb
                rw [HKS.out] at d7 hkv2
                obtain ⟨ao2, cap2, ee, hc2⟩ := hkv2
                obtain ⟨b2, o2, x2, -, hcc2⟩ := hc2 (fun e => by rw [e] at hqk; simp at hqk)
                simp only [Value.slice.injEq] at ee
                obtain ⟨rfl, -, -⟩ := ee
                subst x2
                have k2 := hcc2 q _ hkx
                rw [hy] at k2
                clear eW2 g3 g4 g5 d6 k1 hkx hy hc2 hcc2 hI2 hB2 d0
                by_cases hbig : 1048576 < a + 1 + b
                · have d5 : decide ((1048576 : Int) < (a + 1 + b)) = true := decide_eq_true hbig
                  have HST2 : Hid (szK m ks (q + 1) = 1048577) := Lib.hid (by rw [HSTEP.out]; omega)
                  clear hbig
                  go_still_tail 19, (by kernel_rfl)
                  go_wp2
                  go_roundw
                  case rel => exact ⟨q + 1, by omega, by go_num, by rw [HST2.out]; have h := ((HI2.out.set (i := i) (x := (a + 1 + b))).set (i := i) (x := 1048577)).keeps (keeps_drew _ (fun _ => True)) trivial; simpa only [List.set_set] using h, ((HBW2.out.setCell (Nat.le_refl _) _).setCell (Nat.le_refl _) _).drew⟩
                  case measure => (simp [intOf]; try omega)
                · have d5 : decide ((1048576 : Int) < (a + 1 + b)) = false := decide_eq_false hbig
                  have HST2 : Hid (szK m ks (q + 1) = (a + 1 + b)) := Lib.hid (by rw [HSTEP.out]; omega)
                  clear hbig
                  go_still_tail 19, (by kernel_rfl)
                  go_wp2
                  go_roundw
                  case rel => exact ⟨q + 1, by omega, by go_num, by rw [HST2.out]; have h := (HI2.out.set (i := i) (x := (a + 1 + b))).keeps (keeps_drew _ (fun _ => True)) trivial; simpa only [List.set_set] using h, (HBW2.out.setCell (Nat.le_refl _) _).drew⟩
                  case measure => (simp [intOf]; try omega)
            · obtain rfl : q = ks.length := by omega
              clear hBq hbq hkv
              by_cases hbig : 1048576 < szK m ks ks.length
              · have d5 : decide ((1048576 : Int) < szK m ks ks.length) = true := decide_eq_true hbig
                have HE : Hid (szK m ks ks.length = 1048577) := Lib.hid (by omega)
                have HSS : Hid ((m.set i (szK m ks ks.length)).set i 1048577 = m.set i (szK m ks ks.length)) := Lib.hid (by rw [List.set_set, HE.out])
                generalize szK m ks ks.length = a at *
                clear hbig
                go_wp2
                go_roundw
                case rel => exact siz_rel (i := i + 1) (by omega) HN.out (by rw [← HSS.out]; exact HBQ.out.set) (HBEQ.out.setCell (Nat.le_refl _) _) (by omega)
                case measure => (simp [intOf]; try omega)
              · have d5 : decide ((1048576 : Int) < szK m ks ks.length) = false := decide_eq_false hbig
                generalize szK m ks ks.length = a at *
                clear hbig
                go_wp2
                go_roundw
                case rel => exact siz_rel (i := i + 1) (by omega) HN.out HBQ.out HBEQ.out (by omega)
                case measure => (simp [intOf]; try omega)
      · have HBE2 := Lib.hid (HBE.out.trans (hb2.mono HBE.out.size))
        have HB2 := Lib.hid (HB.out.keeps (Keeps.of_below hb2) trivial)
        have HN := Lib.hid (siz_skip HI.out (fun h => absurd (sound_snd h).2.1 hs))
        clear hs hb2 SD
        go_wp2
        go_roundw
        case rel => exact siz_rel (i := i + 1) (by omega) HN.out HB2.out HBE2.out (by omega)
        case measure => (simp [intOf]; try omega)
    · obtain rfl : i = r + 1 := by omega
      clear hI hB hbel
      go_wp2
      go_ret
      exact ⟨_, m, rfl, HB.out, HI.out, HBE.out⟩
end Go.Proofs.YtnbnnkdepceciaaGreatDoor

/- tribunalref07: Text; SexpTexts: the walk. -/
namespace Go.Proofs.YtnbnnkdepceciaaGreatDoor
open Go.RowKit Mth

set_option maxRecDepth 100000 in
theorem rtext_err {T : List Nd} (v : Value) (r y : Int) (w : World) (hv : ∃ ao n cap, v = .slice ao n cap) (hy : (y != 0) = true) (CK : Calls Tryz.prog 29 #[v, .int .i64 r] w fun e w' => e = .returned (.int .i64 y) ∧ Below w.heap.size w w') :
    Calls Tryz.prog 14 #[v, .int .i64 r] w fun e w' => e = .returned (.tuple #[.string ⟨#[]⟩, .int .i64 y]) ∧ Below w.heap.size w w' := by
  have CC := Lib.hid CK
  obtain ⟨ao, n, cap, rfl⟩ := hv
  clear CK
  go_enter Tryz.func14, Tryz.ntmps14
  go_wp2_with fail
  refine CC.out.mono ?_
  rintro e w0 ⟨rfl, hb⟩
  have HB := Lib.hid hb
  clear hb
  go_wp2
  go_ret2
  exact ⟨rfl, HB.out⟩
set_option maxRecDepth 100000 in
theorem rtext_in {T : List Nd} (C : TabC T) (v : Value) (r : Nat) (w : World) (h : SxL w v T) (hr : r < T.length) :
    Calls Tryz.prog 14 #[v, .int .i64 (r : Int)] w fun e w' => TextK T r e ∧ Below w.heap.size w w' := by
  have hv : ∃ ao n cap, v = .slice ao n cap := by obtain ⟨ao, cap, rfl⟩ := h.shape; exact ⟨_, _, _, rfl⟩
  by_cases hs : Sound T r
  · have CK : Hid (Calls Tryz.prog 29 #[v, .int .i64 (r : Int)] w fun e w' => e = .returned (.int .i64 0) ∧ Below w.heap.size w w') := Lib.hid ((rcheck_in C v r w h hr).mono (by
      rintro e w' ⟨⟨_, rfl⟩ | ⟨hn, _⟩, hb⟩
      · exact ⟨rfl, hb⟩
      · exact absurd hs hn))
    have SZ : Hid (∀ W, Below w.heap.size w W → Calls Tryz.prog 30 #[v, .int .i64 (r : Int)] W fun e w' => ∃ g m, e = .returned (.slice (some ⟨g, 0, none⟩) (r + 1) (r + 1)) ∧ IlW w' g m ∧ SizI T m r (r + 1) ∧ Below W.heap.size W w') := Lib.hid fun W hW => rsizes_in C v r W (h.below hW) hr
    have WR : Hid ((wrF T r).length ≤ 1048576 → ∀ W, Below w.heap.size w W → Calls Tryz.prog 31 #[v, .int .i64 (r : Int)] W fun e w' => e = .returned (.string ⟨(wrF T r).toArray⟩) ∧ Below W.heap.size W w') := Lib.hid fun hl W hW => rwr_any C v r hs hl W (h.below hW)
    have HN := Lib.hid C.N
    have HS := Lib.hid hs
    obtain ⟨ao, n, cap, rfl⟩ := hv
    clear h C hs
    have hN := HN.out
    go_enter Tryz.func14, Tryz.ntmps14
    go_wp2_with fail
    refine CK.out.mono ?_
    rintro e w0 ⟨rfl, hb0⟩
    have HB0 := Lib.hid hb0
    clear hb0
    go_wp2_with fail
    refine (SZ.out _ HB0.out).mono ?_
    rintro e w1 ⟨g, m, rfl, hm, hI, hb1⟩
    have HB1 := Lib.hid (belowT HB0.out hb1)
    have hrm : r < m.length := by rw [hI.len]; omega
    obtain ⟨c1, -⟩ := hm.at hrm
    have HV := Lib.hid (hI.val r hrm (by omega) HS.out)
    clear hm hI hb1
    generalize m[r] = s at *
    by_cases hl : (wrF T r).length ≤ 1048576
    · have d1 : decide ((1048576 : Int) < s) = false := decide_eq_false (by have := HV.out.2.1 hl; omega)
      have HL := Lib.hid hl
      have W1 := Lib.hid (WR.out hl _ HB1.out)
      clear hl hrm
      go_wp2_with fail
      refine W1.out.mono ?_
      rintro e w2 ⟨rfl, hb2⟩
      have HB2 := Lib.hid (belowT HB1.out hb2)
      clear hb2
      go_wp2
      go_ret2
      exact ⟨.inr (.inr ⟨HS.out, HL.out, rfl⟩), HB2.out⟩
    · have d1 : decide ((1048576 : Int) < s) = true := decide_eq_true (HV.out.2.2 (by omega))
      have HL : Hid (1048576 < (wrF T r).length) := Lib.hid (by omega)
      clear hl hrm
      go_wp2
      go_ret2
      exact ⟨.inr (.inl ⟨HS.out, HL.out, rfl⟩), HB1.out⟩
  · refine (rtext_err (T := T) v r 73 w hv rfl ((rcheck_in C v r w h hr).mono ?_)).mono ?_
    · rintro e w' ⟨⟨hn, _⟩ | ⟨_, rfl⟩, hb⟩
      · exact absurd hn hs
      · exact ⟨rfl, hb⟩
    · rintro e w' ⟨rfl, hb⟩
      exact ⟨.inl ⟨hs, rfl⟩, hb⟩
theorem rtext_any {T : List Nd} (C : TabC T) (v : Value) (r : Int) (w : World) (h : SxL w v T) : Calls Tryz.prog 14 #[v, .int .i64 r] w fun e w' => TextO T r e ∧ Below w.heap.size w w' := by
  by_cases hr : 0 ≤ r ∧ r < T.length
  · obtain ⟨k, rfl⟩ : ∃ k : Nat, r = k := ⟨r.toNat, by omega⟩
    have hk : k < T.length := by omega
    refine (rtext_in C v k w h hk).mono ?_
    rintro e w' ⟨hK, hb⟩
    exact ⟨.inr ⟨k, rfl, hk, hK⟩, hb⟩
  · refine (rtext_err (T := T) v r 1 w (by obtain ⟨ao, cap, rfl⟩ := h.shape; exact ⟨_, _, _, rfl⟩) rfl ((rcheck_out T v r w h hr).mono ?_)).mono ?_
    · rintro e w' ⟨rfl, rfl⟩
      exact ⟨rfl, Below.refl _ _⟩
    · rintro e w' ⟨rfl, hb⟩
      exact ⟨.inl ⟨hr, rfl⟩, hb⟩
/-- one answer fits -/
theorem textO_one {T : List Nd} {r : Int} : ∃ (s : ByteArray) (y : Int), ∀ e, TextO T r e → e = .returned (.tuple #[.string s, .int .i64 y]) := by
  by_cases hr : 0 ≤ r ∧ r < T.length
  · obtain ⟨k, rfl⟩ : ∃ k : Nat, r = k := ⟨r.toNat, by omega⟩
    by_cases hs : Sound T k
    · by_cases hl : (wrF T k).length ≤ 1048576
      · refine ⟨⟨(wrF T k).toArray⟩, 0, fun e he => ?_⟩
        rcases he with ⟨hn, _⟩ | ⟨j, hj, _, ⟨hn, _⟩ | ⟨_, hn, _⟩ | ⟨_, _, rfl⟩⟩
        · exact absurd hr hn
        · obtain rfl : k = j := by omega
          exact absurd hs hn
        · obtain rfl : k = j := by omega
          exact absurd hl (by omega)
        · obtain rfl : k = j := by omega
          rfl
      · refine ⟨⟨#[]⟩, 2, fun e he => ?_⟩
        rcases he with ⟨hn, _⟩ | ⟨j, hj, _, ⟨hn, _⟩ | ⟨_, _, rfl⟩ | ⟨_, hn, _⟩⟩
        · exact absurd hr hn
        · obtain rfl : k = j := by omega
          exact absurd hs hn
        · rfl
        · obtain rfl : k = j := by omega
          exact absurd hn hl
    · refine ⟨⟨#[]⟩, 73, fun e he => ?_⟩
      rcases he with ⟨hn, _⟩ | ⟨j, hj, _, ⟨_, rfl⟩ | ⟨hn, _⟩ | ⟨hn, _⟩⟩
      · exact absurd hr hn
      · rfl
      · obtain rfl : k = j := by omega
        exact absurd hn hs
      · obtain rfl : k = j := by omega
        exact absurd hn hs
  · refine ⟨⟨#[]⟩, 1, fun e he => ?_⟩
    rcases he with ⟨_, rfl⟩ | ⟨j, hj, hl, _⟩
    · rfl
    · exact absurd ⟨by omega, by omega⟩ hr
set_option maxHeartbeats 16000000 in
set_option maxRecDepth 100000 in
theorem texts7_walk (w : World) (v : Value) (r : Int) (T : List Nd) (C : TabC T) (h : SxL w v T) (hL : LexW w) : Calls Tryz.prog 4 #[v, .int .i64 r] w fun e w' => e = .returned (.bool true) ∧ Below w.heap.size w w' := by
  obtain ⟨s, y, hsy⟩ := textO_one (T := T) (r := r)
  have T1 : Hid (Calls Tryz.prog 13 #[v, .int .i64 r] w fun e w' => e = .returned (.tuple #[.string s, .int .i64 y]) ∧ Below w.heap.size w w') := Lib.hid ((text_any C v r w h hL).mono (by rintro e w' ⟨hO, hb⟩; exact ⟨hsy e hO, hb⟩))
  have T2 : Hid (∀ W, Below w.heap.size w W → Calls Tryz.prog 14 #[v, .int .i64 r] W fun e w' => e = .returned (.tuple #[.string s, .int .i64 y]) ∧ Below W.heap.size W w') := Lib.hid (fun W hW => (rtext_any C v r W (h.below hW)).mono (by rintro e w' ⟨hO, hb⟩; exact ⟨hsy e hO, hb⟩))
  have AL : Hid (∀ W, Below w.heap.size w W → Calls Tryz.prog 12 #[] W fun e w' => e = .returned (.bool true) ∧ Below W.heap.size W w') := Lib.hid (fun W hW => alive7_any W (hL.below hW))
  obtain ⟨ao, cap, rfl⟩ := h.shape
  clear h hL C hsy
  go_enter Tryz.func4, Tryz.ntmps4
  go_wp2_with fail
  refine T1.out.mono ?_
  rintro e w1 ⟨rfl, hb1⟩
  have B1 := Lib.hid hb1
  clear hb1 T1
  go_wp2_with fail
  refine (T2.out _ B1.out).mono ?_
  rintro e w2 ⟨rfl, hb2⟩
  have B2 := Lib.hid (belowT B1.out hb2)
  clear hb2 T2
  go_wp2_with fail
  refine (AL.out _ B2.out).mono ?_
  rintro e w3 ⟨rfl, hb3⟩
  have B3 := Lib.hid (belowT B2.out hb3)
  clear hb3
  go_wp2
  go_ret
  exact ⟨rfl, B3.out⟩
end Go.Proofs.YtnbnnkdepceciaaGreatDoor
