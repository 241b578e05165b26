/- strconv.FormatUint at the bases 16 and 2. -/
import Derived.Test.YtafeokkkbiaajabDoorOps
import Derived.Test.YtafeokkkbiaajabDoorDigits
import Derived.Outline
import Derived.Laws.IdiomStrings
import Derived.Laws.BitsAllLaws
import Derived.WalkLawsBesides
import Derived.WalkSpells
namespace Go.Proofs.YtafeokkkbiaajabDoor
open Go.RowKit Mth

/-- what is read of math/bits's table -/
def TZ (w : World) : Prop := w.cell? ⟨5, 15, none⟩ = some (.int .u8 4) ∧ w.cell? ⟨5, 1, none⟩ = some (.int .u8 1)
theorem TZ.below {w w' : World} (h : TZ w) (hb : Below w.heap.size w w') : TZ w' :=
  ⟨(hb.cell (p := ⟨5, 15, none⟩) (World.block_lt_of_cell? w _ h.1)).trans h.1, (hb.cell (p := ⟨5, 1, none⟩) (World.block_lt_of_cell? w _ h.2)).trans h.2⟩

theorem tz16 (w : World) (h : TZ w) : Calls Tryd.prog 86 #[.int .u64 16] w fun e w' => e = .returned (.int .i64 4) ∧ w = w' := by
  obtain ⟨h1, h2⟩ := h
  have hk : IntKind.u64.wrap (bits BinOp.and IntKind.u64 16 (IntKind.u64.wrap (-16)) * 285870213051353865) / 288230376151711744 = 15 := by kernel_rfl
  go_enter Tryd.func86, Tryd.ntmps86
  go_wp2
  go_ret
  exact ⟨rfl, rfl⟩
theorem tz2 (w : World) (h : TZ w) : Calls Tryd.prog 86 #[.int .u64 2] w fun e w' => e = .returned (.int .i64 1) ∧ w = w' := by
  obtain ⟨h1, h2⟩ := h
  have hk : IntKind.u64.wrap (bits BinOp.and IntKind.u64 2 (IntKind.u64.wrap (-2)) * 285870213051353865) / 288230376151711744 = 1 := by kernel_rfl
  go_enter Tryd.func86, Tryd.ntmps86
  go_wp2
  go_ret
  exact ⟨rfl, rfl⟩

theorem dig_at : ∀ (d : Nat) (_ : d < 16) (w : World), (Instr.index 9 (.string ⟨#[48, 49, 50, 51, 52, 53, 54, 55, 56, 57, 97, 98, 99, 100, 101, 102, 103, 104, 105, 106, 107, 108, 109, 110, 111, 112, 113, 114, 115, 116, 117, 118, 119, 120, 121, 122]⟩) (.int .u64 (d : Int))).run Tryd.prog w = .ok (.int .u8 ((dch d : Nat) : Int)) w
  | 0, _, w => by kernel_rfl
  | 1, _, w => by kernel_rfl
  | 2, _, w => by kernel_rfl
  | 3, _, w => by kernel_rfl
  | 4, _, w => by kernel_rfl
  | 5, _, w => by kernel_rfl
  | 6, _, w => by kernel_rfl
  | 7, _, w => by kernel_rfl
  | 8, _, w => by kernel_rfl
  | 9, _, w => by kernel_rfl
  | 10, _, w => by kernel_rfl
  | 11, _, w => by kernel_rfl
  | 12, _, w => by kernel_rfl
  | 13, _, w => by kernel_rfl
  | 14, _, w => by kernel_rfl
  | 15, _, w => by kernel_rfl
  | n + 16, h, _ => absurd h (by omega)
theorem dig_md (b : Nat) (hb : 0 < b) (hb16 : b ≤ 16) (u : Nat) (w : World) : (Instr.index 9 (.string ⟨#[48, 49, 50, 51, 52, 53, 54, 55, 56, 57, 97, 98, 99, 100, 101, 102, 103, 104, 105, 106, 107, 108, 109, 110, 111, 112, 113, 114, 115, 116, 117, 118, 119, 120, 121, 122]⟩) (.int .u64 ((md u b : Nat) : Int))).run Tryd.prog w = .ok (.int .u8 ((dch (md u b) : Nat) : Int)) w :=
  dig_at _ (by have := Nat.mod_lt u hb; unfold md; omega) w
theorem and15 (u : Nat) (hu : u < B64) : bits BinOp.and IntKind.u64 (u : Int) 15 = ((md u 16 : Nat) : Int) := by
  unfold B64 at hu
  have := u64_and_nat u 15 hu (by omega)
  rw [show ((15 : Nat) : Int) = 15 from rfl] at this
  rw [this, show (15 : Nat) = 2 ^ 4 - 1 from rfl, Nat.and_two_pow_sub_one_eq_mod]
  rfl
theorem and1 (u : Nat) (hu : u < B64) : bits BinOp.and IntKind.u64 (u : Int) 1 = ((md u 2 : Nat) : Int) := by
  unfold B64 at hu
  have := u64_and_nat u 1 hu (by omega)
  rw [show ((1 : Nat) : Int) = 1 from rfl] at this
  rw [this, Nat.and_one_is_mod]
  rfl

theorem zero133 (w : World) : Row (w.alloc (Obj.cells Tryd.zeroCells113 113)) 113 .u8 w.heap.size (List.replicate 65 0) :=
  (heap_alloc_new w _).trans (congrArg some (by kernel_rfl))
/-- a list of letters as bytes -/
def toBytes (l : List Nat) : List UInt8 := l.map fun (x : Nat) => x.toUInt8
theorem length_toBytes (l : List Nat) : (toBytes l).length = l.length := by simp [toBytes]
theorem bytes_list {l : List Nat} (h : ∀ x ∈ l, x < 256) (j : Nat) (hj : j < (toBytes l).length) : (((toBytes l)[j]'hj).toNat : Int) = ((l.getD j 0 : Nat) : Int) := by
  have hj' : j < l.length := by simpa [toBytes] using hj
  have := h l[j] (List.getElem_mem hj')
  simp [toBytes, List.getD_eq_getElem?_getD, hj']
  omega
theorem cut133 (g x : Nat) (hx : x < 65) (W : World) : (Instr.sliceAt 113 (.pointer (some ⟨g, 0, none⟩)) (some (.int .i64 (x : Int))) none none).run Tryd.prog W = .ok (.slice (some ⟨g, x, none⟩) (65 - x) (65 - x)) W := by
  have hal : Tryd.prog.arrayLen 113 = 65 := by kernel_rfl
  rw [run_sliceAt_array_l W 113 ⟨g, 0, none⟩ (by kernel_rfl) .i64 (x : Int) (by omega) (by rw [hal]; omega), hal]
  go_simp
  omega
theorem str133 {w : World} {g x : Nat} {bs l : List Nat} (h : Row w 113 .u8 g bs) (hb : bs.length = 65) (hx : x < 65) (hl : bs.drop x = l) (h256 : ∀ y ∈ l, y < 256) :
    (convert 78 9 (.slice (some ⟨g, x, none⟩) (65 - x) (65 - x))).run Tryd.prog w = .ok (.string ⟨(toBytes l).toArray⟩) w := by
  have hlen : l.length = 65 - x := by rw [← hl, List.length_drop, hb]
  have := run_convert_bytes_back (P := Tryd.prog) w 78 9 5 ⟨g, x, none⟩ (65 - x) (toBytes l) Tryd.underlying78 Tryd.underlying5 Tryd.underlying9 (fun j hj => by
    rw [bytes_list h256, Addr.add_lit, h.cell (by rw [length_toBytes] at hj; omega), ← hl, getD_drop])
  rw [length_toBytes, hlen] at this
  exact this

/-- what the loop of formatBits holds -/
def Fmt16 (w wr : World) (n0 : Nat) (u i : Value) : Prop := ∃ (f uu ii : Nat) (bs : List Nat), f + 1 ≤ 16 ∧ ii = 65 - 16 + f ∧ uu < 16 ^ (f + 1) ∧ u = .int .u64 (uu : Int) ∧ i = .int .i64 ((ii : Int) + 1) ∧
  Row wr 113 .u8 w.heap.size bs ∧ bs.length = 65 ∧ dgs 16 (f + 1) uu ++ bs.drop (ii + 1) = dgs 16 16 n0 ∧ Below w.heap.size w wr
theorem dv16 (u : Nat) : (u : Int) / 16 = ((dv u 16 : Nat) : Int) := by unfold dv; omega

set_option maxHeartbeats 1000000 in
set_option maxRecDepth 100000 in
theorem fmtBits16 (n0 : Nat) (hn : n0 < B64) (w : World) (hz : TZ w) :
    Calls Tryd.prog 77 #[.slice none 0 0, .int .u64 ((n0 : Nat) : Int), .int .i64 16, .bool false, .bool false] w fun e w' =>
      e = .returned (.tuple #[.slice none 0 0, .string ⟨(toBytes (dgs 16 16 n0)).toArray⟩]) ∧ Below w.heap.size w w' := by
  have HZ := Lib.hid hz; have HN := Lib.hid hn
  clear hz hn
  have hp2 : (bits BinOp.and IntKind.i64 16 15 == 0) = true := by kernel_rfl
  go_enter Tryd.func77, Tryd.ntmps77
  go_wp2_with (first | (go_at_call 86; refine (tz16 _ (HZ.out.below ((Below.refl _ _).alloc (Nat.le_refl _) _))).mono ?_; rintro e w' ⟨rfl, rfl⟩) | go_in)
  clear hp2
  go_loopw [1, 13] (fun u i wr => Fmt16 w wr n0 u i) (fun _ i _ => (intOf i).toNat)
  case atStart => exact ⟨15, n0, 64, List.replicate 65 0, by omega, by omega, by have := HN.out; unfold B64 at this; omega, rfl, rfl, zero133 w, by simp, by simp, (Below.refl _ _).alloc (Nat.le_refl _) _⟩
  case round =>
    obtain ⟨f, u, ii, bs, hf, hii, hu, rfl, rfl, hrow, hlen, hd, hbel⟩ := hrel
    have hub : u < B64 := Nat.lt_of_lt_of_le hu (Nat.le_trans (Nat.pow_le_pow_right (by omega) hf) (by unfold B64; omega))
    have hi65 : ii < 65 := by omega
    have hcell : wr.cell? ⟨w.heap.size, ii, none⟩ = some (.int .u8 ((bs.getD ii 0 : Nat) : Int)) := hrow.cell (by omega)
    have hfz : wr.frozen? ⟨w.heap.size, ii, none⟩ = false := hrow.free _
    generalize bs.getD ii 0 = old at hcell
    have HII := Lib.hid hii; clear hii
    by_cases hlow : u < 16
    · have hd' := fmt_last hlow (i := ii) (by omega) hd
      have hset := hrow.set ii (dch u)
      have hcv := str133 hset.1 (by rw [List.length_set, hlen]) hi65 hd' (dgs_lt (by omega) (by omega) _ _)
      have hcut := fun W => cut133 w.heap.size ii hi65 W
      have HB := Lib.hid (below_of_grown hbel hset.2 (Nat.le_refl _) hbel.size)
      have hdig := fun w => dig_at u (by omega) w
      clear hd hrow hlen hbel hu hub hd' hset
      go_wp2
      go_ret2
      exact ⟨rfl, HB.out⟩
    · have hf1 : 1 ≤ f := by
        rcases Nat.eq_zero_or_pos f with h | h
        · subst h; omega
        · exact h
      obtain ⟨f, rfl⟩ : ∃ g, f = g + 1 := ⟨f - 1, by omega⟩
      have hdv : dv u 16 < 16 ^ (f + 1) := by
        unfold dv
        rw [Nat.div_lt_iff_lt_mul (by omega), ← Nat.pow_succ]; exact hu
      have HD := Lib.hid (fmt_step hlow (i := ii) (by omega) hd)
      have HR := Lib.hid hrow; have HL := Lib.hid hlen; have HB := Lib.hid hbel; have HDV := Lib.hid hdv
      have hand := and15 u hub
      have hdig := fun w => dig_md 16 (by omega) (by omega) u w
      have hdv' := dv16 u
      have hi1 : 1 ≤ ii := by have := HII.out; omega
      clear hd hrow hlen hbel hu hub hdv
      go_wp2
      go_roundw
      case rel =>
        have hset := HR.out.set ii (dch (md u 16))
        refine ⟨f, dv u 16, ii - 1, _, by omega, by have := HII.out; omega, HDV.out, rfl, by congr 1; omega, hset.1, by rw [List.length_set, HL.out], ?_, below_of_grown HB.out hset.2 (Nat.le_refl _) HB.out.size⟩
        rw [show ii - 1 + 1 = ii by omega]
        exact HD.out
      case measure => simp [intOf]

/-- what the loop of formatBits holds -/
def Fmt2 (w wr : World) (n0 : Nat) (u i : Value) : Prop := ∃ (f uu ii : Nat) (bs : List Nat), f + 1 ≤ 64 ∧ ii = 65 - 64 + f ∧ uu < 2 ^ (f + 1) ∧ u = .int .u64 (uu : Int) ∧ i = .int .i64 ((ii : Int) + 1) ∧
  Row wr 113 .u8 w.heap.size bs ∧ bs.length = 65 ∧ dgs 2 (f + 1) uu ++ bs.drop (ii + 1) = dgs 2 64 n0 ∧ Below w.heap.size w wr
theorem dv2 (u : Nat) : (u : Int) / 2 = ((dv u 2 : Nat) : Int) := by unfold dv; omega

set_option maxHeartbeats 1000000 in
set_option maxRecDepth 100000 in
theorem fmtBits2 (n0 : Nat) (hn : n0 < B64) (w : World) (hz : TZ w) :
    Calls Tryd.prog 77 #[.slice none 0 0, .int .u64 ((n0 : Nat) : Int), .int .i64 2, .bool false, .bool false] w fun e w' =>
      e = .returned (.tuple #[.slice none 0 0, .string ⟨(toBytes (dgs 2 64 n0)).toArray⟩]) ∧ Below w.heap.size w w' := by
  have HZ := Lib.hid hz; have HN := Lib.hid hn
  clear hz hn
  have hp2 : (bits BinOp.and IntKind.i64 2 1 == 0) = true := by kernel_rfl
  go_enter Tryd.func77, Tryd.ntmps77
  go_wp2_with (first | (go_at_call 86; refine (tz2 _ (HZ.out.below ((Below.refl _ _).alloc (Nat.le_refl _) _))).mono ?_; rintro e w' ⟨rfl, rfl⟩) | go_in)
  clear hp2
  go_loopw [1, 13] (fun u i wr => Fmt2 w wr n0 u i) (fun _ i _ => (intOf i).toNat)
  case atStart => exact ⟨63, n0, 64, List.replicate 65 0, by omega, by omega, by have := HN.out; unfold B64 at this; omega, rfl, rfl, zero133 w, by simp, by simp, (Below.refl _ _).alloc (Nat.le_refl _) _⟩
  case round =>
    obtain ⟨f, u, ii, bs, hf, hii, hu, rfl, rfl, hrow, hlen, hd, hbel⟩ := hrel
    have hub : u < B64 := Nat.lt_of_lt_of_le hu (Nat.le_trans (Nat.pow_le_pow_right (by omega) hf) (by unfold B64; omega))
    have hi65 : ii < 65 := by omega
    have hcell : wr.cell? ⟨w.heap.size, ii, none⟩ = some (.int .u8 ((bs.getD ii 0 : Nat) : Int)) := hrow.cell (by omega)
    have hfz : wr.frozen? ⟨w.heap.size, ii, none⟩ = false := hrow.free _
    generalize bs.getD ii 0 = old at hcell
    have HII := Lib.hid hii; clear hii
    by_cases hlow : u < 2
    · have hd' := fmt_last hlow (i := ii) (by omega) hd
      have hset := hrow.set ii (dch u)
      have hcv := str133 hset.1 (by rw [List.length_set, hlen]) hi65 hd' (dgs_lt (by omega) (by omega) _ _)
      have hcut := fun W => cut133 w.heap.size ii hi65 W
      have HB := Lib.hid (below_of_grown hbel hset.2 (Nat.le_refl _) hbel.size)
      have hdig := fun w => dig_at u (by omega) w
      clear hd hrow hlen hbel hu hub hd' hset
      go_wp2
      go_ret2
      exact ⟨rfl, HB.out⟩
    · have hf1 : 1 ≤ f := by
        rcases Nat.eq_zero_or_pos f with h | h
        · subst h; omega
        · exact h
      obtain ⟨f, rfl⟩ : ∃ g, f = g + 1 := ⟨f - 1, by omega⟩
      have hdv : dv u 2 < 2 ^ (f + 1) := by
        unfold dv
        rw [Nat.div_lt_iff_lt_mul (by omega), ← Nat.pow_succ]; exact hu
      have HD := Lib.hid (fmt_step hlow (i := ii) (by omega) hd)
      have HR := Lib.hid hrow; have HL := Lib.hid hlen; have HB := Lib.hid hbel; have HDV := Lib.hid hdv
      have hand := and1 u hub
      have hdig := fun w => dig_md 2 (by omega) (by omega) u w
      have hdv' := dv2 u
      have hi1 : 1 ≤ ii := by have := HII.out; omega
      clear hd hrow hlen hbel hu hub hdv
      go_wp2
      go_roundw
      case rel =>
        have hset := HR.out.set ii (dch (md u 2))
        refine ⟨f, dv u 2, ii - 1, _, by omega, by have := HII.out; omega, HDV.out, rfl, by congr 1; omega, hset.1, by rw [List.length_set, HL.out], ?_, below_of_grown HB.out hset.2 (Nat.le_refl _) HB.out.size⟩
        rw [show ii - 1 + 1 = ii by omega]
        exact HD.out
      case measure => simp [intOf]

theorem intFmt16 (n : Nat) (hn : n < B64) (w : World) (hz : TZ w) :
    Calls Tryd.prog 64 #[.int .u64 ((n : Nat) : Int), .int .i64 16] w fun e w' => e = .returned (.string ⟨(toBytes (dgs 16 16 n)).toArray⟩) ∧ Below w.heap.size w w' := by
  go_enter Tryd.func64, Tryd.ntmps64
  go_wp2_with fail
  refine (fmtBits16 n hn _ hz).mono ?_
  rintro e w' ⟨rfl, hb⟩
  have HB := Lib.hid hb; clear hb
  go_wp2
  go_ret
  exact ⟨rfl, HB.out⟩
theorem fmt16 (n : Nat) (hn : n < B64) (w : World) (hz : TZ w) :
    Calls Tryd.prog 55 #[.int .u64 ((n : Nat) : Int), .int .i64 16] w fun e w' => e = .returned (.string ⟨(toBytes (dgs 16 16 n)).toArray⟩) ∧ Below w.heap.size w w' := by
  go_enter Tryd.func55, Tryd.ntmps55
  go_wp2_with fail
  refine (intFmt16 n hn _ hz).mono ?_
  rintro e w' ⟨rfl, hb⟩
  have HB := Lib.hid hb; clear hb
  go_wp2
  go_ret
  exact ⟨rfl, HB.out⟩

theorem intFmt2 (n : Nat) (hn : n < B64) (w : World) (hz : TZ w) :
    Calls Tryd.prog 64 #[.int .u64 ((n : Nat) : Int), .int .i64 2] w fun e w' => e = .returned (.string ⟨(toBytes (dgs 2 64 n)).toArray⟩) ∧ Below w.heap.size w w' := by
  go_enter Tryd.func64, Tryd.ntmps64
  go_wp2_with fail
  refine (fmtBits2 n hn _ hz).mono ?_
  rintro e w' ⟨rfl, hb⟩
  have HB := Lib.hid hb; clear hb
  go_wp2
  go_ret
  exact ⟨rfl, HB.out⟩
theorem fmt2 (n : Nat) (hn : n < B64) (w : World) (hz : TZ w) :
    Calls Tryd.prog 55 #[.int .u64 ((n : Nat) : Int), .int .i64 2] w fun e w' => e = .returned (.string ⟨(toBytes (dgs 2 64 n)).toArray⟩) ∧ Below w.heap.size w w' := by
  go_enter Tryd.func55, Tryd.ntmps55
  go_wp2_with fail
  refine (intFmt2 n hn _ hz).mono ?_
  rintro e w' ⟨rfl, hb⟩
  have HB := Lib.hid hb; clear hb
  go_wp2
  go_ret
  exact ⟨rfl, HB.out⟩
end Go.Proofs.YtafeokkkbiaajabDoor
