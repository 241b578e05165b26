/- Joined Text Fmt10. -/
import Derived.Test.YtehdfkafdpfdnaaGreatDoorUSM
import Derived.Test.YtehdfkafdpfdnaaGreatDoorUMA
import Derived.Lib.ItoaMem
set_option linter.unusedVariables false
set_option linter.unusedSimpArgs false
/- nat.joined: chunks of digits through a strings.Builder. -/
namespace Go.Proofs.YtehdfkafdpfdnaaGreatDoor
open Go.RowKit Mth

theorem lays166 : Go.Proofs.Lays.n166 Tryz.prog Go.Proofs.Tryz.lays105_ren := { mixed := Go.Proofs.Tryz.lays105.mixed, f166 := Go.Proofs.Tryz.lays105.f166, f240 := Go.Proofs.Tryz.lays105.f240, f276 := Go.Proofs.Tryz.lays105.f276, t0 := Go.Proofs.Tryz.lays105.t0, a0 := Go.Proofs.Tryz.lays105.a0, z0 := Go.Proofs.Tryz.lays105.z0, v0 := Go.Proofs.Tryz.lays105.v0, t3 := Go.Proofs.Tryz.lays105.t3, a3 := Go.Proofs.Tryz.lays105.a3, z3 := Go.Proofs.Tryz.lays105.z3, v3 := Go.Proofs.Tryz.lays105.v3, t4 := Go.Proofs.Tryz.lays105.t4, a4 := Go.Proofs.Tryz.lays105.a4, z4 := Go.Proofs.Tryz.lays105.z4, v4 := Go.Proofs.Tryz.lays105.v4, t9 := Go.Proofs.Tryz.lays105.t9, a9 := Go.Proofs.Tryz.lays105.a9, z9 := Go.Proofs.Tryz.lays105.z9, v9 := Go.Proofs.Tryz.lays105.v9, t20 := Go.Proofs.Tryz.lays105.t20, a20 := Go.Proofs.Tryz.lays105.a20, z20 := Go.Proofs.Tryz.lays105.z20, v20 := Go.Proofs.Tryz.lays105.v20, t37 := Go.Proofs.Tryz.lays105.t37, a37 := Go.Proofs.Tryz.lays105.a37, z37 := Go.Proofs.Tryz.lays105.z37, v37 := Go.Proofs.Tryz.lays105.v37, t70 := Go.Proofs.Tryz.lays105.t70, a70 := Go.Proofs.Tryz.lays105.a70, z70 := Go.Proofs.Tryz.lays105.z70, v70 := Go.Proofs.Tryz.lays105.v70, t72 := Go.Proofs.Tryz.lays105.t72, a72 := Go.Proofs.Tryz.lays105.a72, z72 := Go.Proofs.Tryz.lays105.z72, v72 := Go.Proofs.Tryz.lays105.v72, t75 := Go.Proofs.Tryz.lays105.t75, a75 := Go.Proofs.Tryz.lays105.a75, z75 := Go.Proofs.Tryz.lays105.z75, v75 := Go.Proofs.Tryz.lays105.v75, t164 := Go.Proofs.Tryz.lays105.t164, a164 := Go.Proofs.Tryz.lays105.a164, z164 := Go.Proofs.Tryz.lays105.z164, v164 := Go.Proofs.Tryz.lays105.v164 }

/-- a strings.Builder of the call's own that holds these bytes -/
def Bld (B b : Nat) (l : List Nat) (w : World) : Prop := Lib.IsBuilder 116 5 B b (Lib.byteCells (toBytes l)) w
theorem builderAt_kept {B b : Nat} {p : Value} {bs : List Value} {w w' : World} (h : Lib.BuilderAt 116 5 B b p bs w) (hb : Below w.heap.size w w') : Lib.BuilderAt 116 5 B b p bs w' := by
  have hlt := h.lt
  obtain ⟨h1, v, h2, h3, h4⟩ := h
  refine ⟨h1, v, (hb.block b hlt).trans h2, h3.kept (grown_of_below hb none) ?_, h4⟩
  cases h5 : v.ownBlock
  · exact .inl rfl
  · exact .inr (by simp)
theorem Bld.below {B b : Nat} {l : List Nat} {w w' : World} (h : Bld B b l w) (hb : Below w.heap.size w w') : Bld B b l w' := by
  rcases h with h | h
  · exact .inl (builderAt_kept h hb)
  · exact .inr (builderAt_kept h hb)
theorem toBytes_append (l r : List Nat) : toBytes (l ++ r) = toBytes l ++ toBytes r := by simp [toBytes]
theorem write_any (B b : Nat) (l s : List Nat) (w : World) (h : Bld B b l w) (hlen : l.length + s.length ≤ 140737488355328) (hBw : B ≤ w.heap.size) :
    Calls Tryz.prog 62 #[.pointer (some ⟨b, 0, none⟩), .string ⟨(toBytes s).toArray⟩] w fun e w' => ∃ v, e = .returned (.tuple v) ∧ Bld B b (l ++ s) w' ∧ Below B w w' := by
  have := Any.Builder_WriteString lays166 Go.Proofs.Tryz.Builder_Extra_105 B b (Lib.byteCells (toBytes l)) ⟨(toBytes s).toArray⟩ w h
    (by simp only [Lib.byteCells_length, length_toBytes, ByteArray.size, List.size_toArray]; omega) hBw
  refine this.mono fun e w' ⟨he, h1, h2⟩ => ⟨_, he, .inr ?_, h2⟩
  have e1 : Lib.byteCells (toBytes (l ++ s)) = Lib.byteCells (toBytes l) ++ Lib.strCells ⟨(toBytes s).toArray⟩ := by
    rw [toBytes_append, Lib.strCells_eq]; simp [Lib.byteCells]
  rw [e1]
  exact h1
theorem string_any (B b : Nat) (l : List Nat) (w : World) (h : Bld B b l w) (hBw : B ≤ w.heap.size) :
    Calls Tryz.prog 63 #[.pointer (some ⟨b, 0, none⟩)] w fun e w' => e = .returned (.string ⟨(toBytes l).toArray⟩) ∧ Below B w w' :=
  Any.Builder_String_any Go.Proofs.Tryz.lays169 Go.Proofs.Tryz.Builder_Extra_169 B b (toBytes l) w h hBw
theorem repeat_any (c : Nat) (w : World) (hc : c ≤ 1000000) :
    Calls Tryz.prog 35 #[.string ⟨#[48]⟩, .int .i64 (c : Int)] w fun e w' => e = .returned (.string ⟨(toBytes (List.replicate c 48)).toArray⟩) ∧ Below w.heap.size w w' := by
  refine (Go.Proofs.Tryz.strings_Repeat ⟨#[48]⟩ c w (by omega) (by simp [ByteArray.size]; omega)).mono fun e w' ⟨he, h⟩ => ⟨?_, h⟩
  have : ∀ c, Lib.repeatL [48] c = toBytes (List.replicate c 48) := by
    intro c
    induction c with
    | zero => rfl
    | succ c ih => simp only [Lib.repeatL, ih, toBytes, List.replicate_succ, List.map_cons]; rfl
  rw [he, ← this]
theorem fresh_bld (w : World) : Bld w.heap.size w.heap.size [] (w.alloc (.cells #[.pointer none, .slice none 0 0] 116)) := Lib.fresh_isBuilder _ _ _

/-- what a call of FormatUint is taken to give -/
def Fmts (D : Nat → List Nat) (lim : Nat) (Z : World → Prop) (b : Int) : Prop := ∀ (n : Nat) (w : World), n < lim → Z w →
  Calls Tryz.prog 61 #[.int .u64 ((n : Nat) : Int), .int .i64 b] w fun e w' => e = .returned (.string ⟨(toBytes (D n)).toArray⟩) ∧ Below w.heap.size w w'
/-- what the loop of joined holds -/
def Jnd (D : Nat → List Nat) (wd : Nat) (cs : List Nat) (w wr : World) (i : Value) : Prop := ∃ m : Nat, m ≤ cs.length ∧ i = .int .i64 ((m : Int) - 1) ∧ Bld w.heap.size w.heap.size (jnd D wd (cs.drop m)) wr ∧ Below w.heap.size w wr
theorem str_len (l : List Nat) : ((⟨(toBytes l).toArray⟩ : ByteArray).size) = l.length := by simp [ByteArray.size, length_toBytes]

set_option maxHeartbeats 1000000 in
set_option maxRecDepth 100000 in
theorem joined_any (b : Int) (wd lim : Nat) (D : Nat → List Nat) (Z : World → Prop) (hZ : ∀ w w', Z w → Below w.heap.size w w' → Z w') (hD : ∀ n, n < lim → (D n).length ≤ wd) (hwd : wd ≤ 64) (hf : Fmts D lim Z b)
    (v : Value) (cs : List Nat) (w : World) (hs : Sl w .u64 v cs) (hl : Lim lim cs) (hp : 0 < cs.length) (hz : Z w) :
    Calls Tryz.prog 33 #[v, .int .i64 b, .int .i64 (wd : Int)] w fun e w' => e = .returned (.string ⟨(toBytes (jnd D wd cs)).toArray⟩) ∧ Below w.heap.size w w' := by
  have hlen := hs.len
  obtain ⟨bb, boff, cap, rfl, h1, h2, h3, hc⟩ := hs.pos hp
  unfold maxLen at h2
  have HC := Lib.hid hc; have HZ := Lib.hid hz; have HZZ := Lib.hid hZ; have HL := Lib.hid hl; have HDD := Lib.hid hD; have HF := Lib.hid hf
  clear hc hz hs hZ hl hD hf
  go_enter Tryz.func33, Tryz.ntmps33
  go_wp2
  go_loopw [8] (fun i wr => Jnd D wd cs w wr i) (fun i _ => (intOf i + 1).toNat)
  case atStart => exact ⟨cs.length, Nat.le_refl _, rfl, by rw [List.drop_length]; exact fresh_bld w, (Below.refl _ _).alloc (Nat.le_refl _) _⟩
  case round =>
    obtain ⟨m, hm, rfl, hbld, hbel⟩ := hrel
    have HB := Lib.hid hbld; have HE := Lib.hid hbel
    clear hbld hbel
    by_cases h0 : 0 < m
    · obtain ⟨k, rfl⟩ : ∃ k, m = k + 1 := ⟨m - 1, by omega⟩
      have hck : wr.cell? ⟨bb, boff + k, none⟩ = some (.int .u64 ((cs.getD k 0 : Nat) : Int)) := (HE.out.cell (p := ⟨bb, boff + k, none⟩) h3).trans (HC.out k (by omega))
      have hcl := HL.out k
      have HW := Lib.hid (HDD.out _ hcl)
      have HCL := Lib.hid hcl
      have HJ := Lib.hid (length_jnd (D := D) (wd := wd) (cs := cs.drop (k + 1)) (fun j => HDD.out _ (by rw [getD_drop]; exact HL.out _)))
      have HJ2 : Hid ((jnd D wd (cs.drop (k + 1))).length ≤ 1073741824) := Lib.hid (by
        have h8 := HJ.out
        rw [List.length_drop] at h8
        have h9 : wd * (cs.length - (k + 1)) ≤ 64 * 16777216 := Nat.mul_le_mul hwd (by omega)
        omega)
      clear HJ
      generalize hx : cs.getD k 0 = x at hck HW HCL
      have HX := Lib.hid hx
      clear hx hcl
      rw [show (((k + 1 : Nat) : Int) - 1) = (k : Int) by omega]
      have hkl : k < cs.length := by omega
      clear hm h0
      by_cases hlast : cs.length ≤ k + 1
      · have HLAST := Lib.hid (jnd_last (D := D) (wd := wd) (cs := cs) (m := k) (by omega))
        go_wp2_with fail
        refine (HF.out _ _ HCL.out (HZZ.out _ _ HZ.out HE.out)).mono ?_
        rintro e w1 ⟨rfl, hb1⟩
        have HB1 := Lib.hid (HB.out.below hb1); have HE1 := Lib.hid (below_step HE.out hb1)
        clear hb1
        go_wp2_with fail
        refine (write_any w.heap.size w.heap.size _ _ _ HB1.out (by have h8 := HJ2.out; have h9 := HW.out; omega) HE1.out.size).mono ?_
        rintro e w2 ⟨tv, rfl, hb2, he2⟩
        have HB2 := Lib.hid hb2; have HE2 := Lib.hid (HE1.out.trans he2)
        clear hb2 he2
        go_wp2
        go_roundw
        case rel => exact ⟨k, by omega, by go_num, by rw [HLAST.out, HX.out]; exact HB2.out, HE2.out⟩
        case measure => simp [intOf]
      · have HMORE := Lib.hid (jnd_more (D := D) (wd := wd) (cs := cs) (m := k) (by omega))
        have hW2 : (toBytes (D x)).length ≤ wd := by rw [length_toBytes]; exact HW.out
        go_wp2_with fail
        refine (HF.out _ _ HCL.out (HZZ.out _ _ HZ.out HE.out)).mono ?_
        rintro e w1 ⟨rfl, hb1⟩
        have HB1 := Lib.hid (HB.out.below hb1); have HE1 := Lib.hid (below_step HE.out hb1)
        clear hb1
        go_wp2_with fail
        rw [show ((wd : Int) - ((toBytes (D x)).length : Int)) = ((wd - (toBytes (D x)).length : Nat) : Int) by omega]
        refine (repeat_any _ _ (by omega)).mono ?_
        rintro e w2 ⟨rfl, hb2⟩
        have HB2 := Lib.hid (HB1.out.below hb2); have HE2 := Lib.hid (below_step HE1.out hb2)
        clear hb2
        go_wp2_with fail
        refine (write_any w.heap.size w.heap.size _ _ _ HB2.out (by rw [List.length_replicate]; have h8 := HJ2.out; omega) HE2.out.size).mono ?_
        rintro e w3 ⟨tv, rfl, hb3, he3⟩
        have HB3 := Lib.hid hb3; have HE3 := Lib.hid (HE2.out.trans he3)
        clear hb3 he3
        go_wp2_with fail
        refine (write_any w.heap.size w.heap.size _ _ _ HB3.out (by rw [List.length_append, List.length_replicate]; have h8 := HJ2.out; have h9 := HW.out; omega) HE3.out.size).mono ?_
        rintro e w4 ⟨tv4, rfl, hb4, he4⟩
        have HB4 := Lib.hid hb4; have HE4 := Lib.hid (HE3.out.trans he4)
        clear hb4 he4
        go_wp2
        go_roundw
        case rel =>
          refine ⟨k, by omega, by go_num, ?_, HE4.out⟩
          have h5 := HB4.out
          rw [length_toBytes, List.append_assoc] at h5
          rw [HMORE.out, HX.out]
          exact h5
        case measure => simp [intOf]
    · have hm0 : m = 0 := by omega
      subst hm0
      clear hm h0
      go_wp2_with fail
      refine (string_any w.heap.size w.heap.size _ _ HB.out HE.out.size).mono ?_
      rintro e w1 ⟨rfl, hb1⟩
      have HE1 := Lib.hid (HE.out.trans hb1)
      clear hb1
      go_wp2
      go_ret
      exact ⟨rfl, HE1.out⟩
end Go.Proofs.YtehdfkafdpfdnaaGreatDoor

/- nat.Text at the bases 16 and 2. -/
namespace Go.Proofs.YtehdfkafdpfdnaaGreatDoor
open Go.RowKit Mth

/-- what Text writes, and its error -/
def textS (D : Nat → List Nat) (wd : Nat) (xs : List Nat) : List Nat := if 4096 < (trimL xs).length then [] else if (trimL xs).length = 0 then [48] else jnd D wd (trimL xs)
def textE (xs : List Nat) : Int := if 4096 < (trimL xs).length then 5 else 0
theorem textS_long {D : Nat → List Nat} {wd : Nat} {xs : List Nat} (h : 4096 < (trimL xs).length) : textS D wd xs = [] := if_pos h
theorem textS_zero {D : Nat → List Nat} {wd : Nat} {xs : List Nat} (h : (trimL xs).length = 0) : textS D wd xs = [48] := by unfold textS; rw [if_neg (by omega), if_pos h]
theorem textS_any {D : Nat → List Nat} {wd : Nat} {xs : List Nat} (h : ¬ 4096 < (trimL xs).length) (h0 : ¬ (trimL xs).length = 0) : textS D wd xs = jnd D wd (trimL xs) := by unfold textS; rw [if_neg h, if_neg h0]
theorem textE_long {xs : List Nat} (h : 4096 < (trimL xs).length) : textE xs = 5 := if_pos h
theorem textE_short {xs : List Nat} (h : ¬ 4096 < (trimL xs).length) : textE xs = 0 := if_neg h

theorem fmts16 : Fmts (dgs 16 16) B64 TZ 16 := fun n w hn hz => fmt16 n hn w hz
theorem joined16 (v : Value) (cs : List Nat) (w : World) (hs : Sl w .u64 v cs) (hl : Lim B64 cs) (hp : 0 < cs.length) (hz : TZ w) :
    Calls Tryz.prog 33 #[v, .int .i64 16, .int .i64 16] w fun e w' => e = .returned (.string ⟨(toBytes (jnd (dgs 16 16) 16 cs)).toArray⟩) ∧ Below w.heap.size w w' :=
  joined_any 16 16 B64 (dgs 16 16) TZ (fun _ _ h hb => h.below hb) (fun n _ => length_dgs (by omega) 16 n) (by omega) fmts16 v cs w hs hl hp hz
set_option maxRecDepth 100000 in
theorem text16 (v : Value) (xs : List Nat) (w : World) (hs : Sl w .u64 v xs) (hl : Lim B64 xs) (hz : TZ w) :
    Calls Tryz.prog 14 #[v, .int .i64 16] w fun e w' => e = .returned (.tuple #[.string ⟨(toBytes (textS (dgs 16 16) 16 xs)).toArray⟩, .int .i64 (textE xs)]) ∧ Below w.heap.size w w' := by
  have HS := Lib.hid hs; have HL := Lib.hid hl; have HZ := Lib.hid hz
  clear hs hl hz
  by_cases hlong : 4096 < (trimL xs).length
  · have hd : decide (4096 < (trimL xs).length) = true := decide_eq_true hlong
    have E1 := Lib.hid (textS_long (D := dgs 16 16) (wd := 16) hlong); have E2 := Lib.hid (textE_long hlong)
    clear hlong
    go_enter Tryz.func14, Tryz.ntmps14
    go_wp2_with fail
    refine (trim_any HS.out).mono ?_
    rintro e w' ⟨v', rfl, hs', rfl⟩
    have HS' := Lib.hid hs'; clear hs'
    go_wp2_with (first | (go_at_call 32; refine (tooLong_any HS'.out).mono ?_; rintro e w' ⟨rfl, rfl⟩) | (go_at_call 31; go_in))
    go_ret2
    exact ⟨by rw [E1.out, E2.out]; rfl, Below.refl _ _⟩
  · have hd : decide (4096 < (trimL xs).length) = false := decide_eq_false hlong
    by_cases h0 : (trimL xs).length = 0
    · have hd0 := len_eq h0
      have E1 := Lib.hid (textS_zero (D := dgs 16 16) (wd := 16) h0); have E2 := Lib.hid (textE_short hlong)
      clear hlong h0
      go_enter Tryz.func14, Tryz.ntmps14
      go_wp2_with fail
      refine (trim_any HS.out).mono ?_
      rintro e w' ⟨v', rfl, hs', rfl⟩
      obtain ⟨a2, c2, rfl⟩ := hs'.shape
      have HS' := Lib.hid hs'; clear hs'
      go_wp2_with (first | (go_at_call 32; refine (tooLong_any HS'.out).mono ?_; rintro e w' ⟨rfl, rfl⟩) | (go_at_call 31; go_in))
      go_ret2
      exact ⟨by rw [E1.out, E2.out]; rfl, Below.refl _ _⟩
    · have hd0 := len_ne h0
      have E1 := Lib.hid (textS_any (D := dgs 16 16) (wd := 16) hlong h0); have E2 := Lib.hid (textE_short hlong)
      have H0 : Hid (0 < (trimL xs).length) := Lib.hid (by omega)
      clear hlong h0
      go_enter Tryz.func14, Tryz.ntmps14
      go_wp2_with fail
      refine (trim_any HS.out).mono ?_
      rintro e w' ⟨v', rfl, hs', rfl⟩
      obtain ⟨a2, c2, rfl⟩ := hs'.shape
      have HS' := Lib.hid hs'; clear hs'
      go_wp2_with (first | (go_at_call 32; refine (tooLong_any HS'.out).mono ?_; rintro e w' ⟨rfl, rfl⟩) | (go_at_call 31; go_in) | (go_at_call 33; refine (joined16 _ _ _ HS'.out (lim_trimL HL.out) H0.out HZ.out).mono ?_; rintro e w1 ⟨rfl, hb1⟩; have HB1 := Lib.hid hb1; clear hb1))
      go_ret2
      exact ⟨by rw [E1.out, E2.out]; rfl, HB1.out⟩

theorem fmts2 : Fmts (dgs 2 64) B64 TZ 2 := fun n w hn hz => fmt2 n hn w hz
theorem joined2 (v : Value) (cs : List Nat) (w : World) (hs : Sl w .u64 v cs) (hl : Lim B64 cs) (hp : 0 < cs.length) (hz : TZ w) :
    Calls Tryz.prog 33 #[v, .int .i64 2, .int .i64 64] w fun e w' => e = .returned (.string ⟨(toBytes (jnd (dgs 2 64) 64 cs)).toArray⟩) ∧ Below w.heap.size w w' :=
  joined_any 2 64 B64 (dgs 2 64) TZ (fun _ _ h hb => h.below hb) (fun n _ => length_dgs (by omega) 64 n) (by omega) fmts2 v cs w hs hl hp hz
set_option maxRecDepth 100000 in
theorem text2 (v : Value) (xs : List Nat) (w : World) (hs : Sl w .u64 v xs) (hl : Lim B64 xs) (hz : TZ w) :
    Calls Tryz.prog 14 #[v, .int .i64 2] w fun e w' => e = .returned (.tuple #[.string ⟨(toBytes (textS (dgs 2 64) 64 xs)).toArray⟩, .int .i64 (textE xs)]) ∧ Below w.heap.size w w' := by
  have HS := Lib.hid hs; have HL := Lib.hid hl; have HZ := Lib.hid hz
  clear hs hl hz
  by_cases hlong : 4096 < (trimL xs).length
  · have hd : decide (4096 < (trimL xs).length) = true := decide_eq_true hlong
    have E1 := Lib.hid (textS_long (D := dgs 2 64) (wd := 64) hlong); have E2 := Lib.hid (textE_long hlong)
    clear hlong
    go_enter Tryz.func14, Tryz.ntmps14
    go_wp2_with fail
    refine (trim_any HS.out).mono ?_
    rintro e w' ⟨v', rfl, hs', rfl⟩
    have HS' := Lib.hid hs'; clear hs'
    go_wp2_with (first | (go_at_call 32; refine (tooLong_any HS'.out).mono ?_; rintro e w' ⟨rfl, rfl⟩) | (go_at_call 31; go_in))
    go_ret2
    exact ⟨by rw [E1.out, E2.out]; rfl, Below.refl _ _⟩
  · have hd : decide (4096 < (trimL xs).length) = false := decide_eq_false hlong
    by_cases h0 : (trimL xs).length = 0
    · have hd0 := len_eq h0
      have E1 := Lib.hid (textS_zero (D := dgs 2 64) (wd := 64) h0); have E2 := Lib.hid (textE_short hlong)
      clear hlong h0
      go_enter Tryz.func14, Tryz.ntmps14
      go_wp2_with fail
      refine (trim_any HS.out).mono ?_
      rintro e w' ⟨v', rfl, hs', rfl⟩
      obtain ⟨a2, c2, rfl⟩ := hs'.shape
      have HS' := Lib.hid hs'; clear hs'
      go_wp2_with (first | (go_at_call 32; refine (tooLong_any HS'.out).mono ?_; rintro e w' ⟨rfl, rfl⟩) | (go_at_call 31; go_in))
      go_ret2
      exact ⟨by rw [E1.out, E2.out]; rfl, Below.refl _ _⟩
    · have hd0 := len_ne h0
      have E1 := Lib.hid (textS_any (D := dgs 2 64) (wd := 64) hlong h0); have E2 := Lib.hid (textE_short hlong)
      have H0 : Hid (0 < (trimL xs).length) := Lib.hid (by omega)
      clear hlong h0
      go_enter Tryz.func14, Tryz.ntmps14
      go_wp2_with fail
      refine (trim_any HS.out).mono ?_
      rintro e w' ⟨v', rfl, hs', rfl⟩
      obtain ⟨a2, c2, rfl⟩ := hs'.shape
      have HS' := Lib.hid hs'; clear hs'
      go_wp2_with (first | (go_at_call 32; refine (tooLong_any HS'.out).mono ?_; rintro e w' ⟨rfl, rfl⟩) | (go_at_call 31; go_in) | (go_at_call 33; refine (joined2 _ _ _ HS'.out (lim_trimL HL.out) H0.out HZ.out).mono ?_; rintro e w1 ⟨rfl, hb1⟩; have HB1 := Lib.hid hb1; clear hb1))
      go_ret2
      exact ⟨by rw [E1.out, E2.out]; rfl, HB1.out⟩
end Go.Proofs.YtehdfkafdpfdnaaGreatDoor

/- strconv.FormatUint at the base 10. -/
namespace Go.Proofs.YtehdfkafdpfdnaaGreatDoor
open Go.RowKit Mth Go.Sort

/-- what is read of strconv's table -/
def TZ10 (w : World) : Prop := Lib.TabIs Tryz.prog w "internal/strconv.uint64pow10" .u64 Lib.pow10Tab
theorem g_pow10 : Tryz.prog.globalNamed "internal/strconv.uint64pow10" = some 2 := by kernel_rfl
theorem TZ10.below {w w' : World} (h : TZ10 w) (hb : Below w.heap.size w w') : TZ10 w' := by
  unfold TZ10 Lib.TabIs World.var? at h ⊢
  rw [g_pow10] at h ⊢
  simp only [Option.bind_some] at h ⊢
  have hlt : 2 < w.heap.size := by
    rcases Nat.lt_or_ge 2 w.heap.size with h' | h'
    · exact h'
    · rw [Array.getElem?_eq_none h'] at h; cases h
  rw [hb.block _ hlt]
  exact h
end Go.Proofs.YtehdfkafdpfdnaaGreatDoor
