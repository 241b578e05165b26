/- Joined Text Fmt10. -/
import Derived.Test.YthgmebnihpjnoaaGreatDoorSM
import Derived.Test.YthgmebnihpjnoaaGreatDoorMA
import Derived.Lib.ItoaMem
set_option linter.unusedVariables false
set_option linter.unusedSimpArgs false
/- nat.joined: chunks of digits through a strings.Builder. -/
namespace Go.Proofs.YthgmebnihpjnoaaGreatDoor
open Go.RowKit Mth

theorem lays166 : Go.Proofs.Lays.n166 Tryz.prog Go.Proofs.Tryz.lays105_ren := { mixed := Go.Proofs.Tryz.lays105.mixed, f166 := Go.Proofs.Tryz.lays105.f166, f240 := Go.Proofs.Tryz.lays105.f240, f276 := Go.Proofs.Tryz.lays105.f276, t0 := Go.Proofs.Tryz.lays105.t0, a0 := Go.Proofs.Tryz.lays105.a0, z0 := Go.Proofs.Tryz.lays105.z0, v0 := Go.Proofs.Tryz.lays105.v0, t3 := Go.Proofs.Tryz.lays105.t3, a3 := Go.Proofs.Tryz.lays105.a3, z3 := Go.Proofs.Tryz.lays105.z3, v3 := Go.Proofs.Tryz.lays105.v3, t4 := Go.Proofs.Tryz.lays105.t4, a4 := Go.Proofs.Tryz.lays105.a4, z4 := Go.Proofs.Tryz.lays105.z4, v4 := Go.Proofs.Tryz.lays105.v4, t9 := Go.Proofs.Tryz.lays105.t9, a9 := Go.Proofs.Tryz.lays105.a9, z9 := Go.Proofs.Tryz.lays105.z9, v9 := Go.Proofs.Tryz.lays105.v9, t20 := Go.Proofs.Tryz.lays105.t20, a20 := Go.Proofs.Tryz.lays105.a20, z20 := Go.Proofs.Tryz.lays105.z20, v20 := Go.Proofs.Tryz.lays105.v20, t37 := Go.Proofs.Tryz.lays105.t37, a37 := Go.Proofs.Tryz.lays105.a37, z37 := Go.Proofs.Tryz.lays105.z37, v37 := Go.Proofs.Tryz.lays105.v37, t70 := Go.Proofs.Tryz.lays105.t70, a70 := Go.Proofs.Tryz.lays105.a70, z70 := Go.Proofs.Tryz.lays105.z70, v70 := Go.Proofs.Tryz.lays105.v70, t72 := Go.Proofs.Tryz.lays105.t72, a72 := Go.Proofs.Tryz.lays105.a72, z72 := Go.Proofs.Tryz.lays105.z72, v72 := Go.Proofs.Tryz.lays105.v72, t75 := Go.Proofs.Tryz.lays105.t75, a75 := Go.Proofs.Tryz.lays105.a75, z75 := Go.Proofs.Tryz.lays105.z75, v75 := Go.Proofs.Tryz.lays105.v75, t164 := Go.Proofs.Tryz.lays105.t164, a164 := Go.Proofs.Tryz.lays105.a164, z164 := Go.Proofs.Tryz.lays105.z164, v164 := Go.Proofs.Tryz.lays105.v164 }

/-- a strings.Builder of the call's own that holds these bytes -/
def Bld (B b : Nat) (l : List Nat) (w : World) : Prop := Lib.IsBuilder 181 5 B b (Lib.byteCells (toBytes l)) w
theorem builderAt_kept {B b : Nat} {p : Value} {bs : List Value} {w w' : World} (h : Lib.BuilderAt 181 5 B b p bs w) (hb : Below w.heap.size w w') : Lib.BuilderAt 181 5 B b p bs w' := by
  have hlt := h.lt
  obtain ⟨h1, v, h2, h3, h4⟩ := h
  refine ⟨h1, v, (hb.block b hlt).trans h2, h3.kept (grown_of_below hb none) ?_, h4⟩
  cases h5 : v.ownBlock
  · exact .inl rfl
  · exact .inr (by simp)
theorem Bld.below {B b : Nat} {l : List Nat} {w w' : World} (h : Bld B b l w) (hb : Below w.heap.size w w') : Bld B b l w' := by
  rcases h with h | h
  · exact .inl (builderAt_kept h hb)
  · exact .inr (builderAt_kept h hb)
theorem toBytes_append (l r : List Nat) : toBytes (l ++ r) = toBytes l ++ toBytes r := by simp [toBytes]
theorem write_any (B b : Nat) (l s : List Nat) (w : World) (h : Bld B b l w) (hlen : l.length + s.length ≤ 140737488355328) (hBw : B ≤ w.heap.size) :
    Calls Tryz.prog 145 #[.pointer (some ⟨b, 0, none⟩), .string ⟨(toBytes s).toArray⟩] w fun e w' => ∃ v, e = .returned (.tuple v) ∧ Bld B b (l ++ s) w' ∧ Below B w w' := by
  have := Any.Builder_WriteString lays166 Go.Proofs.Tryz.Builder_Extra_105 B b (Lib.byteCells (toBytes l)) ⟨(toBytes s).toArray⟩ w h
    (by simp only [Lib.byteCells_length, length_toBytes, ByteArray.size, List.size_toArray]; omega) hBw
  refine this.mono fun e w' ⟨he, h1, h2⟩ => ⟨_, he, .inr ?_, h2⟩
  have e1 : Lib.byteCells (toBytes (l ++ s)) = Lib.byteCells (toBytes l) ++ Lib.strCells ⟨(toBytes s).toArray⟩ := by
    rw [toBytes_append, Lib.strCells_eq]; simp [Lib.byteCells]
  rw [e1]
  exact h1
theorem string_any (B b : Nat) (l : List Nat) (w : World) (h : Bld B b l w) (hBw : B ≤ w.heap.size) :
    Calls Tryz.prog 147 #[.pointer (some ⟨b, 0, none⟩)] w fun e w' => e = .returned (.string ⟨(toBytes l).toArray⟩) ∧ Below B w w' :=
  Any.Builder_String_any Go.Proofs.Tryz.lays169 Go.Proofs.Tryz.Builder_Extra_169 B b (toBytes l) w h hBw
theorem repeat_any (c : Nat) (w : World) (hc : c ≤ 1000000) :
    Calls Tryz.prog 146 #[.string ⟨#[48]⟩, .int .i64 (c : Int)] w fun e w' => e = .returned (.string ⟨(toBytes (List.replicate c 48)).toArray⟩) ∧ Below w.heap.size w w' := by
  refine (Go.Proofs.Tryz.strings_Repeat ⟨#[48]⟩ c w (by omega) (by simp [ByteArray.size]; omega)).mono fun e w' ⟨he, h⟩ => ⟨?_, h⟩
  have : ∀ c, Lib.repeatL [48] c = toBytes (List.replicate c 48) := by
    intro c
    induction c with
    | zero => rfl
    | succ c ih => simp only [Lib.repeatL, ih, toBytes, List.replicate_succ, List.map_cons]; rfl
  rw [he, ← this]
theorem fresh_bld (w : World) : Bld w.heap.size w.heap.size [] (w.alloc (.cells #[.pointer none, .slice none 0 0] 181)) := Lib.fresh_isBuilder _ _ _

/-- what a call of FormatUint is taken to give -/
def Fmts (D : Nat → List Nat) (lim : Nat) (Z : World → Prop) (b : Int) : Prop := ∀ (n : Nat) (w : World), n < lim → Z w →
  Calls Tryz.prog 144 #[.int .u64 ((n : Nat) : Int), .int .i64 b] w fun e w' => e = .returned (.string ⟨(toBytes (D n)).toArray⟩) ∧ Below w.heap.size w w'
/-- what the loop of joined holds -/
def Jnd (D : Nat → List Nat) (wd : Nat) (cs : List Nat) (w wr : World) (i : Value) : Prop := ∃ m : Nat, m ≤ cs.length ∧ i = .int .i64 ((m : Int) - 1) ∧ Bld w.heap.size w.heap.size (jnd D wd (cs.drop m)) wr ∧ Below w.heap.size w wr
theorem str_len (l : List Nat) : ((⟨(toBytes l).toArray⟩ : ByteArray).size) = l.length := by simp [ByteArray.size, length_toBytes]

set_option maxHeartbeats 1000000 in
set_option maxRecDepth 100000 in
theorem joined_any (b : Int) (wd lim : Nat) (D : Nat → List Nat) (Z : World → Prop) (hZ : ∀ w w', Z w → Below w.heap.size w w' → Z w') (hD : ∀ n, n < lim → (D n).length ≤ wd) (hwd : wd ≤ 64) (hf : Fmts D lim Z b)
    (v : Value) (cs : List Nat) (w : World) (hs : Sl w .u64 v cs) (hl : Lim lim cs) (hp : 0 < cs.length) (hz : Z w) :
    Calls Tryz.prog 118 #[v, .int .i64 b, .int .i64 (wd : Int)] w fun e w' => e = .returned (.string ⟨(toBytes (jnd D wd cs)).toArray⟩) ∧ Below w.heap.size w w' := by
  have hlen := hs.len
  obtain ⟨bb, boff, cap, rfl, h1, h2, h3, hc⟩ := hs.pos hp
  unfold maxLen at h2
  have HC := Lib.hid hc; have HZ := Lib.hid hz; have HZZ := Lib.hid hZ; have HL := Lib.hid hl; have HDD := Lib.hid hD; have HF := Lib.hid hf
  clear hc hz hs hZ hl hD hf
  go_enter Tryz.func118, Tryz.ntmps118
  go_wp2
  go_loopw [8] (fun i wr => Jnd D wd cs w wr i) (fun i _ => (intOf i + 1).toNat)
  case atStart => exact ⟨cs.length, Nat.le_refl _, rfl, by rw [List.drop_length]; exact fresh_bld w, (Below.refl _ _).alloc (Nat.le_refl _) _⟩
  case round =>
    obtain ⟨m, hm, rfl, hbld, hbel⟩ := hrel
    have HB := Lib.hid hbld; have HE := Lib.hid hbel
    clear hbld hbel
    by_cases h0 : 0 < m
    · obtain ⟨k, rfl⟩ : ∃ k, m = k + 1 := ⟨m - 1, by omega⟩
      have hck : wr.cell? ⟨bb, boff + k, none⟩ = some (.int .u64 ((cs.getD k 0 : Nat) : Int)) := (HE.out.cell (p := ⟨bb, boff + k, none⟩) h3).trans (HC.out k (by omega))
      have hcl := HL.out k
      have HW := Lib.hid (HDD.out _ hcl)
      have HCL := Lib.hid hcl
      have HJ := Lib.hid (length_jnd (D := D) (wd := wd) (cs := cs.drop (k + 1)) (fun j => HDD.out _ (by rw [getD_drop]; exact HL.out _)))
      have HJ2 : Hid ((jnd D wd (cs.drop (k + 1))).length ≤ 1073741824) := Lib.hid (by
        have h8 := HJ.out
        rw [List.length_drop] at h8
        have h9 : wd * (cs.length - (k + 1)) ≤ 64 * 16777216 := Nat.mul_le_mul hwd (by omega)
        omega)
      clear HJ
      generalize hx : cs.getD k 0 = x at hck HW HCL
      have HX := Lib.hid hx
      clear hx hcl
      rw [show (((k + 1 : Nat) : Int) - 1) = (k : Int) by omega]
      have hkl : k < cs.length := by omega
      clear hm h0
      by_cases hlast : cs.length ≤ k + 1
      · have HLAST := Lib.hid (jnd_last (D := D) (wd := wd) (cs := cs) (m := k) (by omega))
        go_wp2_with fail
        refine (HF.out _ _ HCL.out (HZZ.out _ _ HZ.out HE.out)).mono ?_
        rintro e w1 ⟨rfl, hb1⟩
        have HB1 := Lib.hid (HB.out.below hb1); have HE1 := Lib.hid (below_step HE.out hb1)
        clear hb1
        go_wp2_with fail
        refine (write_any w.heap.size w.heap.size _ _ _ HB1.out (by have h8 := HJ2.out; have h9 := HW.out; omega) HE1.out.size).mono ?_
        rintro e w2 ⟨tv, rfl, hb2, he2⟩
        have HB2 := Lib.hid hb2; have HE2 := Lib.hid (HE1.out.trans he2)
        clear hb2 he2
        go_wp2
        go_roundw
        case rel => exact ⟨k, by omega, by go_num, by rw [HLAST.out, HX.out]; exact HB2.out, HE2.out⟩
        case measure => simp [intOf]
      · have HMORE := Lib.hid (jnd_more (D := D) (wd := wd) (cs := cs) (m := k) (by omega))
        have hW2 : (toBytes (D x)).length ≤ wd := by rw [length_toBytes]; exact HW.out
        go_wp2_with fail
        refine (HF.out _ _ HCL.out (HZZ.out _ _ HZ.out HE.out)).mono ?_
        rintro e w1 ⟨rfl, hb1⟩
        have HB1 := Lib.hid (HB.out.below hb1); have HE1 := Lib.hid (below_step HE.out hb1)
        clear hb1
        go_wp2_with fail
        rw [show ((wd : Int) - ((toBytes (D x)).length : Int)) = ((wd - (toBytes (D x)).length : Nat) : Int) by omega]
        refine (repeat_any _ _ (by omega)).mono ?_
        rintro e w2 ⟨rfl, hb2⟩
        have HB2 := Lib.hid (HB1.out.below hb2); have HE2 := Lib.hid (below_step HE1.out hb2)
        clear hb2
        go_wp2_with fail
        refine (write_any w.heap.size w.heap.size _ _ _ HB2.out (by rw [List.length_replicate]; have h8 := HJ2.out; omega) HE2.out.size).mono ?_
        rintro e w3 ⟨tv, rfl, hb3, he3⟩
        have HB3 := Lib.hid hb3; have HE3 := Lib.hid (HE2.out.trans he3)
        clear hb3 he3
        go_wp2_with fail
        refine (write_any w.heap.size w.heap.size _ _ _ HB3.out (by rw [List.length_append, List.length_replicate]; have h8 := HJ2.out; have h9 := HW.out; omega) HE3.out.size).mono ?_
        rintro e w4 ⟨tv4, rfl, hb4, he4⟩
        have HB4 := Lib.hid hb4; have HE4 := Lib.hid (HE3.out.trans he4)
        clear hb4 he4
        go_wp2
        go_roundw
        case rel =>
          refine ⟨k, by omega, by go_num, ?_, HE4.out⟩
          have h5 := HB4.out
          rw [length_toBytes, List.append_assoc] at h5
          rw [HMORE.out, HX.out]
          exact h5
        case measure => simp [intOf]
    · have hm0 : m = 0 := by omega
      subst hm0
      clear hm h0
      go_wp2_with fail
      refine (string_any w.heap.size w.heap.size _ _ HB.out HE.out.size).mono ?_
      rintro e w1 ⟨rfl, hb1⟩
      have HE1 := Lib.hid (HE.out.trans hb1)
      clear hb1
      go_wp2
      go_ret
      exact ⟨rfl, HE1.out⟩
end Go.Proofs.YthgmebnihpjnoaaGreatDoor

/- nat.Text at the bases 16 and 2. -/
namespace Go.Proofs.YthgmebnihpjnoaaGreatDoor
open Go.RowKit Mth

end Go.Proofs.YthgmebnihpjnoaaGreatDoor

/- strconv.FormatUint at the base 10. -/
namespace Go.Proofs.YthgmebnihpjnoaaGreatDoor
open Go.RowKit Mth Go.Sort

/-- what is read of strconv's table -/
def TZ10 (w : World) : Prop := Lib.TabIs Tryz.prog w "internal/strconv.uint64pow10" .u64 Lib.pow10Tab
theorem g_pow10 : Tryz.prog.globalNamed "internal/strconv.uint64pow10" = some 4 := by kernel_rfl
theorem TZ10.below {w w' : World} (h : TZ10 w) (hb : Below w.heap.size w w') : TZ10 w' := by
  unfold TZ10 Lib.TabIs World.var? at h ⊢
  rw [g_pow10] at h ⊢
  simp only [Option.bind_some] at h ⊢
  have hlt : 4 < w.heap.size := by
    rcases Nat.lt_or_ge 4 w.heap.size with h' | h'
    · exact h'
    · rw [Array.getElem?_eq_none h'] at h; cases h
  rw [hb.block _ hlt]
  exact h
theorem holds_zero0 (w : World) (T : TypeId) (nd : Nat) (hs : nd ≤ 24) : Holds (fun (b : UInt8) => Value.int .u8 (b.toNat : Int)) (w.alloc (.cells Lib.zeros24 T)) w.heap.size 0 (Array.replicate nd (0 : UInt8)) := fun j hj => by
  have hj' : j < nd := by simpa using hj
  refine ⟨?_, World.frozen?_alloc_new _ _ _ _⟩
  rw [World.cell?_alloc_new, Lib.zeros24_at _ (by omega), getElem!_pos _ j hj]
  simp
theorem decDigits_numeral (u : Nat) : Lib.decDigits u = toBytes (numeral 10 u) := by
  induction u using Nat.strongRecOn with
  | _ u ih =>
    by_cases h : u < 10
    · rw [Lib.decDigits, dif_pos h, numeral_low h]
      simp [toBytes, dch, h]
    · rw [Lib.decDigits, dif_neg h, numeral_step (by omega) h, toBytes_append, ih (u / 10) (by omega)]
      have : u % 10 < 10 := Nat.mod_lt _ (by omega)
      simp [toBytes, dch, this]

set_option maxHeartbeats 6400000 in
set_option maxRecDepth 100000 in
theorem intFmt10 (u : Nat) (hu64 : u < B64) (w : World) (htab : TZ10 w) :
    Calls Tryz.prog 177 #[.int .u64 ((u : Nat) : Int), .int .i64 10] w fun e w' => e = .returned (.string ⟨(Lib.decDigits u).toArray⟩) ∧ Below w.heap.size w w' := by
  unfold B64 at hu64
  unfold TZ10 at htab
  by_cases hs : u < 100
  · have hd : decide ((u : Int) < 100) = true := decide_eq_true (by omega)
    go_enter Tryz.func177, Tryz.ntmps177
    go_wp2_with fail
    refine (Go.Proofs.Tryz.internal_strconv_small u hs _).mono ?_
    rintro e w' ⟨rfl, rfl⟩
    go_wp2
    go_ret
    exact ⟨rfl, Below.refl _ _⟩
  · have hd : decide ((u : Int) < 100) = false := decide_eq_false (by omega)
    have hu1 : 1 ≤ u := by omega
    have hnd20 : Lib.nDigits u ≤ 20 := by have := Lib.numDigits_eq u hu1 hu64; split at this <;> omega
    have hb3 : Lib.nDigits u ≤ 24 := by omega
    have hal : Tryz.prog.arrayLen 231 = 24 := by kernel_rfl
    have hsl : ∀ W, (Instr.sliceAt 231 (.pointer (some ⟨w.heap.size, 0, none⟩)) none (some (.int .i64 (Lib.nDigits u : Int))) none).run Tryz.prog W = .ok (.slice (some ⟨w.heap.size, 0, none⟩) (Lib.nDigits u) 24) W := fun W => by
      rw [run_sliceAt_array_h W 231 ⟨w.heap.size, 0, none⟩ (by kernel_rfl) .i64 (Lib.nDigits u : Int) (by omega) (by rw [hal]; omega)]
      go_simp
    have hH0 := holds_zero0 w 231 (Lib.nDigits u) (by omega)
    have hfmt := Go.Proofs.Tryz.internal_strconv_formatBase10 w.heap.size 0 24 u (Array.replicate (Lib.nDigits u) 0) (w.alloc (.cells Lib.zeros24 231)) hH0 (by rw [Array.size_replicate]; exact Lib.lt_pow_nDigits u) hu64 (by rw [Array.size_replicate]; omega)
    rw [Array.size_replicate] at hfmt
    have HH0 := Lib.hid hH0
    clear hH0 hal
    go_enter Tryz.func177, Tryz.ntmps177
    go_wp2_with fail
    refine (Go.Proofs.Tryz.internal_strconv_numDigits u hu1 hu64 _ (Lib.tabIs_alloc htab _)).mono ?_
    rintro e w' ⟨rfl, rfl⟩
    go_wp2_with fail
    refine hfmt.mono ?_
    rintro e w' ⟨rfl, k, v', dk, rfl, hF⟩
    have hcv : (convert 179 9 (.slice (some ⟨w.heap.size, 0, none⟩) (Lib.nDigits u) 24)).run Tryz.prog ((putRow (fun (b : UInt8) => Value.int .u8 (b.toNat : Int)) (w.alloc (.cells Lib.zeros24 231)) w.heap.size 0 dk).drewN k) = .ok (.string ⟨(Lib.decDigits u).toArray⟩) ((putRow (fun (b : UInt8) => Value.int .u8 (b.toNat : Int)) (w.alloc (.cells Lib.zeros24 231)) w.heap.size 0 dk).drewN k) := by
      have h := run_convert_bytes_back (P := Tryz.prog) ((putRow (fun (b : UInt8) => Value.int .u8 (b.toNat : Int)) (w.alloc (.cells Lib.zeros24 231)) w.heap.size 0 dk).drewN k) 179 9 5 ⟨w.heap.size, 0, none⟩ 24 (Lib.decDigits u) Tryz.underlying179 Tryz.underlying5 Tryz.underlying9 (fun j hj => by
        rw [Lib.row_is_numeral hF j hj, Lib.add_plain, World.cell?_drewN]
        exact cell?_putRow (fun (b : UInt8) => Value.int .u8 (b.toNat : Int)) _ w.heap.size 0 _ dk HH0.out (by rw [hF.size, Array.size_replicate]) j (by rw [hF.size]; rw [Lib.decDigits_length] at hj; exact hj))
      rw [Lib.decDigits_length] at h
      exact h
    go_wp2
    go_ret
    refine ⟨rfl, ?_⟩
    rw [alloc_eq_grow]
    obtain ⟨os', _, e⟩ := putRow_grow_new (fun (b : UInt8) => Value.int .u8 (b.toNat : Int)) w #[.cells Lib.zeros24 231] w.heap.size 0 dk (Nat.le_refl _)
    rw [e]
    exact ⟨rfl, rfl, rfl, by simp [grow], fun i hi => by
      show (w.heap ++ os')[i]? = _
      rw [Array.getElem?_append_left hi]⟩
theorem fmt10 (n : Nat) (hn : n < B64) (w : World) (hz : TZ10 w) :
    Calls Tryz.prog 144 #[.int .u64 ((n : Nat) : Int), .int .i64 10] w fun e w' => e = .returned (.string ⟨(toBytes (numeral 10 n)).toArray⟩) ∧ Below w.heap.size w w' := by
  rw [← decDigits_numeral]
  go_enter Tryz.func144, Tryz.ntmps144
  go_wp2_with fail
  refine (intFmt10 n hn _ hz).mono ?_
  rintro e w' ⟨rfl, hb⟩
  have HB := Lib.hid hb; clear hb
  go_wp2
  go_ret
  exact ⟨rfl, HB.out⟩
end Go.Proofs.YthgmebnihpjnoaaGreatDoor
