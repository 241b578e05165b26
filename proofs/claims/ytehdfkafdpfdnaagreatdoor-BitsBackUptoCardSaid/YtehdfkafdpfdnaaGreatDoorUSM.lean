/- Small Fmt Mul Times Product ProductB. -/
import Derived.Test.YtehdfkafdpfdnaaGreatDoorUMB
import Derived.Test.YtehdfkafdpfdnaaGreatDoorShelf
import Derived.Outline
import Derived.Deep.DeepFit
import Derived.Test.YtehdfkafdpfdnaaGreatDoorUMA
import Derived.Laws.IdiomStrings
import Derived.Laws.BitsAllLaws
import Derived.WalkLawsBesides
import Derived.WalkSpells
import Derived.Deep.RegionWith
import Derived.Deep.QuietTactic
import Derived.BigQuiet
set_option linter.unusedVariables false
set_option linter.unusedSimpArgs false
/- The small functions of nat: tooLong, Of, settle, fresh, answer, Small; mulAdd. -/
namespace Go.Proofs.YtehdfkafdpfdnaaGreatDoor
open Go.RowKit Mth

theorem tooLong_any {v : Value} {xs : List Nat} {w : World} (h : Sl w .u64 v xs) :
    Calls Tryz.prog 32 #[v] w fun e w' => e = .returned (.bool (decide (4096 < xs.length))) ∧ w = w' := by
  obtain ⟨ao, cap, rfl, h1, h2, h3, h4, h5⟩ := h
  clear h4 h5
  unfold maxLen at h2
  go_enter Tryz.func32, Tryz.ntmps32
  go_wp2
  go_ret
  exact ⟨ret_bool (by rw [decide_eq_decide]; omega), rfl⟩

theorem settle_any {v : Value} {xs : List Nat} {w : World} (h : Sl w .u64 v xs) :
    Calls Tryz.prog 152 #[v] w fun e w' => ∃ v', e = .returned v' ∧ Sl w .u64 v' (trimL xs) ∧ w = w' := by
  go_enter Tryz.func152, Tryz.ntmps152
  go_wp2_with fail
  refine (trim_any h).mono ?_
  rintro e w' ⟨v', rfl, hs, rfl⟩
  have hs' := hs
  obtain ⟨ao, cap, rfl, h1, h2, h3, h4, h5⟩ := hs'
  clear h4 h5
  unfold maxLen at h2
  by_cases h0 : (trimL xs).length = 0
  · have e0 : trimL xs = [] := List.eq_nil_of_length_eq_zero h0
    have hd := len_eq h0
    clear h0
    have E0 := Lib.hid e0; clear e0
    go_wp2
    go_ret
    exact ⟨_, rfl, by rw [E0.out]; exact sl_nil _ _, rfl⟩
  · have hd := len_ne h0
    clear h0
    go_wp2
    go_ret
    exact ⟨_, rfl, hs, rfl⟩

theorem answer_any {v : Value} {xs : List Nat} {w : World} (h : Sl w .u64 v xs) (hx : Lim B64 xs) :
    Calls Tryz.prog 87 #[v] w fun e w' => ∃ v', e = .returned (.tuple #[v', .int .i64 (cutE (val B64 xs))]) ∧ Num w v' (cutN (val B64 xs)) ∧ w = w' := by
  go_enter Tryz.func87, Tryz.ntmps87
  go_wp2_with fail
  refine (settle_any h).mono ?_
  rintro e w' ⟨v', rfl, hs, rfl⟩
  clear h
  have hN := num_trim hs hx
  have L := long_iff hx
  by_cases h0 : 4096 < (trimL xs).length
  · have hd : decide (4096 < (trimL xs).length) = true := decide_eq_true h0
    have e1 : cutE (val B64 xs) = 5 := if_pos (L.1 h0)
    have e2 : cutN (val B64 xs) = 0 := if_pos (L.1 h0)
    have E1 := Lib.hid e1; have E2 := Lib.hid e2
    clear e1 e2 L h0 hN
    go_wp2_with fail
    refine (tooLong_any hs).mono ?_
    rintro e w' ⟨rfl, rfl⟩
    go_wp2
    go_ret2
    exact ⟨_, by rw [E1.out]; rfl, by rw [E2.out]; exact num_nil _, rfl⟩
  · have hd : decide (4096 < (trimL xs).length) = false := decide_eq_false h0
    have e1 : cutE (val B64 xs) = 0 := if_neg (fun h => h0 (L.2 h))
    have e2 : cutN (val B64 xs) = val B64 xs := if_neg (fun h => h0 (L.2 h))
    have E1 := Lib.hid e1; have E2 := Lib.hid e2
    clear e1 e2 L h0
    go_wp2_with fail
    refine (tooLong_any hs).mono ?_
    rintro e w' ⟨rfl, rfl⟩
    go_wp2
    go_ret2
    exact ⟨_, by rw [E1.out]; rfl, by rw [E2.out]; exact hN, rfl⟩
end Go.Proofs.YtehdfkafdpfdnaaGreatDoor

/- strconv.FormatUint at the bases 16 and 2. -/
namespace Go.Proofs.YtehdfkafdpfdnaaGreatDoor
open Go.RowKit Mth

/-- what is read of math/bits's table -/
def TZ (w : World) : Prop := w.cell? ⟨5, 15, none⟩ = some (.int .u8 4) ∧ w.cell? ⟨5, 1, none⟩ = some (.int .u8 1)
theorem TZ.below {w w' : World} (h : TZ w) (hb : Below w.heap.size w w') : TZ w' :=
  ⟨(hb.cell (p := ⟨5, 15, none⟩) (World.block_lt_of_cell? w _ h.1)).trans h.1, (hb.cell (p := ⟨5, 1, none⟩) (World.block_lt_of_cell? w _ h.2)).trans h.2⟩

theorem tz16 (w : World) (h : TZ w) : Calls Tryz.prog 201 #[.int .u64 16] w fun e w' => e = .returned (.int .i64 4) ∧ w = w' := by
  obtain ⟨h1, h2⟩ := h
  have hk : IntKind.u64.wrap (bits BinOp.and IntKind.u64 16 (IntKind.u64.wrap (-16)) * 285870213051353865) / 288230376151711744 = 15 := by kernel_rfl
  go_enter Tryz.func201, Tryz.ntmps201
  go_wp2
  go_ret
  exact ⟨rfl, rfl⟩
theorem tz2 (w : World) (h : TZ w) : Calls Tryz.prog 201 #[.int .u64 2] w fun e w' => e = .returned (.int .i64 1) ∧ w = w' := by
  obtain ⟨h1, h2⟩ := h
  have hk : IntKind.u64.wrap (bits BinOp.and IntKind.u64 2 (IntKind.u64.wrap (-2)) * 285870213051353865) / 288230376151711744 = 1 := by kernel_rfl
  go_enter Tryz.func201, Tryz.ntmps201
  go_wp2
  go_ret
  exact ⟨rfl, rfl⟩

theorem dig_at : ∀ (d : Nat) (_ : d < 16) (w : World), (Instr.index 9 (.string ⟨#[48, 49, 50, 51, 52, 53, 54, 55, 56, 57, 97, 98, 99, 100, 101, 102, 103, 104, 105, 106, 107, 108, 109, 110, 111, 112, 113, 114, 115, 116, 117, 118, 119, 120, 121, 122]⟩) (.int .u64 (d : Int))).run Tryz.prog w = .ok (.int .u8 ((dch d : Nat) : Int)) w
  | 0, _, w => by kernel_rfl
  | 1, _, w => by kernel_rfl
  | 2, _, w => by kernel_rfl
  | 3, _, w => by kernel_rfl
  | 4, _, w => by kernel_rfl
  | 5, _, w => by kernel_rfl
  | 6, _, w => by kernel_rfl
  | 7, _, w => by kernel_rfl
  | 8, _, w => by kernel_rfl
  | 9, _, w => by kernel_rfl
  | 10, _, w => by kernel_rfl
  | 11, _, w => by kernel_rfl
  | 12, _, w => by kernel_rfl
  | 13, _, w => by kernel_rfl
  | 14, _, w => by kernel_rfl
  | 15, _, w => by kernel_rfl
  | n + 16, h, _ => absurd h (by omega)
theorem dig_md (b : Nat) (hb : 0 < b) (hb16 : b ≤ 16) (u : Nat) (w : World) : (Instr.index 9 (.string ⟨#[48, 49, 50, 51, 52, 53, 54, 55, 56, 57, 97, 98, 99, 100, 101, 102, 103, 104, 105, 106, 107, 108, 109, 110, 111, 112, 113, 114, 115, 116, 117, 118, 119, 120, 121, 122]⟩) (.int .u64 ((md u b : Nat) : Int))).run Tryz.prog w = .ok (.int .u8 ((dch (md u b) : Nat) : Int)) w :=
  dig_at _ (by have := Nat.mod_lt u hb; unfold md; omega) w
theorem and15 (u : Nat) (hu : u < B64) : bits BinOp.and IntKind.u64 (u : Int) 15 = ((md u 16 : Nat) : Int) := by
  unfold B64 at hu
  have := u64_and_nat u 15 hu (by omega)
  rw [show ((15 : Nat) : Int) = 15 from rfl] at this
  rw [this, show (15 : Nat) = 2 ^ 4 - 1 from rfl, Nat.and_two_pow_sub_one_eq_mod]
  rfl
theorem and1 (u : Nat) (hu : u < B64) : bits BinOp.and IntKind.u64 (u : Int) 1 = ((md u 2 : Nat) : Int) := by
  unfold B64 at hu
  have := u64_and_nat u 1 hu (by omega)
  rw [show ((1 : Nat) : Int) = 1 from rfl] at this
  rw [this, Nat.and_one_is_mod]
  rfl

theorem zero133 (w : World) : Row (w.alloc (Obj.cells Tryz.zeroCells200 200)) 200 .u8 w.heap.size (List.replicate 65 0) :=
  (heap_alloc_new w _).trans (congrArg some (by kernel_rfl))
/-- a list of letters as bytes -/
def toBytes (l : List Nat) : List UInt8 := l.map fun (x : Nat) => x.toUInt8
theorem length_toBytes (l : List Nat) : (toBytes l).length = l.length := by simp [toBytes]
theorem bytes_list {l : List Nat} (h : ∀ x ∈ l, x < 256) (j : Nat) (hj : j < (toBytes l).length) : (((toBytes l)[j]'hj).toNat : Int) = ((l.getD j 0 : Nat) : Int) := by
  have hj' : j < l.length := by simpa [toBytes] using hj
  have := h l[j] (List.getElem_mem hj')
  simp [toBytes, List.getD_eq_getElem?_getD, hj']
  omega
theorem cut133 (g x : Nat) (hx : x < 65) (W : World) : (Instr.sliceAt 200 (.pointer (some ⟨g, 0, none⟩)) (some (.int .i64 (x : Int))) none none).run Tryz.prog W = .ok (.slice (some ⟨g, x, none⟩) (65 - x) (65 - x)) W := by
  have hal : Tryz.prog.arrayLen 200 = 65 := by kernel_rfl
  rw [run_sliceAt_array_l W 200 ⟨g, 0, none⟩ (by kernel_rfl) .i64 (x : Int) (by omega) (by rw [hal]; omega), hal]
  go_simp
  omega
theorem str133 {w : World} {g x : Nat} {bs l : List Nat} (h : Row w 200 .u8 g bs) (hb : bs.length = 65) (hx : x < 65) (hl : bs.drop x = l) (h256 : ∀ y ∈ l, y < 256) :
    (convert 114 9 (.slice (some ⟨g, x, none⟩) (65 - x) (65 - x))).run Tryz.prog w = .ok (.string ⟨(toBytes l).toArray⟩) w := by
  have hlen : l.length = 65 - x := by rw [← hl, List.length_drop, hb]
  have := run_convert_bytes_back (P := Tryz.prog) w 114 9 5 ⟨g, x, none⟩ (65 - x) (toBytes l) Tryz.underlying114 Tryz.underlying5 Tryz.underlying9 (fun j hj => by
    rw [bytes_list h256, Addr.add_lit, h.cell (by rw [length_toBytes] at hj; omega), ← hl, getD_drop])
  rw [length_toBytes, hlen] at this
  exact this

/-- what the loop of formatBits holds -/
def Fmt16 (w wr : World) (n0 : Nat) (u i : Value) : Prop := ∃ (f uu ii : Nat) (bs : List Nat), f + 1 ≤ 16 ∧ ii = 65 - 16 + f ∧ uu < 16 ^ (f + 1) ∧ u = .int .u64 (uu : Int) ∧ i = .int .i64 ((ii : Int) + 1) ∧
  Row wr 200 .u8 w.heap.size bs ∧ bs.length = 65 ∧ dgs 16 (f + 1) uu ++ bs.drop (ii + 1) = dgs 16 16 n0 ∧ Below w.heap.size w wr
theorem dv16 (u : Nat) : (u : Int) / 16 = ((dv u 16 : Nat) : Int) := by unfold dv; omega

set_option maxHeartbeats 1000000 in
set_option maxRecDepth 100000 in
theorem fmtBits16 (n0 : Nat) (hn : n0 < B64) (w : World) (hz : TZ w) :
    Calls Tryz.prog 161 #[.slice none 0 0, .int .u64 ((n0 : Nat) : Int), .int .i64 16, .bool false, .bool false] w fun e w' =>
      e = .returned (.tuple #[.slice none 0 0, .string ⟨(toBytes (dgs 16 16 n0)).toArray⟩]) ∧ Below w.heap.size w w' := by
  have HZ := Lib.hid hz; have HN := Lib.hid hn
  clear hz hn
  have hp2 : (bits BinOp.and IntKind.i64 16 15 == 0) = true := by kernel_rfl
  go_enter Tryz.func161, Tryz.ntmps161
  go_wp2_with (first | (go_at_call 201; refine (tz16 _ (HZ.out.below ((Below.refl _ _).alloc (Nat.le_refl _) _))).mono ?_; rintro e w' ⟨rfl, rfl⟩) | go_in)
  clear hp2
  go_loopw [1, 13] (fun u i wr => Fmt16 w wr n0 u i) (fun _ i _ => (intOf i).toNat)
  case atStart => exact ⟨15, n0, 64, List.replicate 65 0, by omega, by omega, by have := HN.out; unfold B64 at this; omega, rfl, rfl, zero133 w, by simp, by simp, (Below.refl _ _).alloc (Nat.le_refl _) _⟩
  case round =>
    obtain ⟨f, u, ii, bs, hf, hii, hu, rfl, rfl, hrow, hlen, hd, hbel⟩ := hrel
    have hub : u < B64 := Nat.lt_of_lt_of_le hu (Nat.le_trans (Nat.pow_le_pow_right (by omega) hf) (by unfold B64; omega))
    have hi65 : ii < 65 := by omega
    have hcell : wr.cell? ⟨w.heap.size, ii, none⟩ = some (.int .u8 ((bs.getD ii 0 : Nat) : Int)) := hrow.cell (by omega)
    have hfz : wr.frozen? ⟨w.heap.size, ii, none⟩ = false := hrow.free _
    generalize bs.getD ii 0 = old at hcell
    have HII := Lib.hid hii; clear hii
    by_cases hlow : u < 16
    · have hd' := fmt_last hlow (i := ii) (by omega) hd
      have hset := hrow.set ii (dch u)
      have hcv := str133 hset.1 (by rw [List.length_set, hlen]) hi65 hd' (dgs_lt (by omega) (by omega) _ _)
      have hcut := fun W => cut133 w.heap.size ii hi65 W
      have HB := Lib.hid (below_of_grown hbel hset.2 (Nat.le_refl _) hbel.size)
      have hdig := fun w => dig_at u (by omega) w
      clear hd hrow hlen hbel hu hub hd' hset
      go_wp2
      go_ret2
      exact ⟨rfl, HB.out⟩
    · have hf1 : 1 ≤ f := by
        rcases Nat.eq_zero_or_pos f with h | h
        · subst h; omega
        · exact h
      obtain ⟨f, rfl⟩ : ∃ g, f = g + 1 := ⟨f - 1, by omega⟩
      have hdv : dv u 16 < 16 ^ (f + 1) := by
        unfold dv
        rw [Nat.div_lt_iff_lt_mul (by omega), ← Nat.pow_succ]; exact hu
      have HD := Lib.hid (fmt_step hlow (i := ii) (by omega) hd)
      have HR := Lib.hid hrow; have HL := Lib.hid hlen; have HB := Lib.hid hbel; have HDV := Lib.hid hdv
      have hand := and15 u hub
      have hdig := fun w => dig_md 16 (by omega) (by omega) u w
      have hdv' := dv16 u
      have hi1 : 1 ≤ ii := by have := HII.out; omega
      clear hd hrow hlen hbel hu hub hdv
      go_wp2
      go_roundw
      case rel =>
        have hset := HR.out.set ii (dch (md u 16))
        refine ⟨f, dv u 16, ii - 1, _, by omega, by have := HII.out; omega, HDV.out, rfl, by congr 1; omega, hset.1, by rw [List.length_set, HL.out], ?_, below_of_grown HB.out hset.2 (Nat.le_refl _) HB.out.size⟩
        rw [show ii - 1 + 1 = ii by omega]
        exact HD.out
      case measure => simp [intOf]

/-- what the loop of formatBits holds -/
def Fmt2 (w wr : World) (n0 : Nat) (u i : Value) : Prop := ∃ (f uu ii : Nat) (bs : List Nat), f + 1 ≤ 64 ∧ ii = 65 - 64 + f ∧ uu < 2 ^ (f + 1) ∧ u = .int .u64 (uu : Int) ∧ i = .int .i64 ((ii : Int) + 1) ∧
  Row wr 200 .u8 w.heap.size bs ∧ bs.length = 65 ∧ dgs 2 (f + 1) uu ++ bs.drop (ii + 1) = dgs 2 64 n0 ∧ Below w.heap.size w wr
theorem dv2 (u : Nat) : (u : Int) / 2 = ((dv u 2 : Nat) : Int) := by unfold dv; omega

set_option maxHeartbeats 1000000 in
set_option maxRecDepth 100000 in
theorem fmtBits2 (n0 : Nat) (hn : n0 < B64) (w : World) (hz : TZ w) :
    Calls Tryz.prog 161 #[.slice none 0 0, .int .u64 ((n0 : Nat) : Int), .int .i64 2, .bool false, .bool false] w fun e w' =>
      e = .returned (.tuple #[.slice none 0 0, .string ⟨(toBytes (dgs 2 64 n0)).toArray⟩]) ∧ Below w.heap.size w w' := by
  have HZ := Lib.hid hz; have HN := Lib.hid hn
  clear hz hn
  have hp2 : (bits BinOp.and IntKind.i64 2 1 == 0) = true := by kernel_rfl
  go_enter Tryz.func161, Tryz.ntmps161
  go_wp2_with (first | (go_at_call 201; refine (tz2 _ (HZ.out.below ((Below.refl _ _).alloc (Nat.le_refl _) _))).mono ?_; rintro e w' ⟨rfl, rfl⟩) | go_in)
  clear hp2
  go_loopw [1, 13] (fun u i wr => Fmt2 w wr n0 u i) (fun _ i _ => (intOf i).toNat)
  case atStart => exact ⟨63, n0, 64, List.replicate 65 0, by omega, by omega, by have := HN.out; unfold B64 at this; omega, rfl, rfl, zero133 w, by simp, by simp, (Below.refl _ _).alloc (Nat.le_refl _) _⟩
  case round =>
    obtain ⟨f, u, ii, bs, hf, hii, hu, rfl, rfl, hrow, hlen, hd, hbel⟩ := hrel
    have hub : u < B64 := Nat.lt_of_lt_of_le hu (Nat.le_trans (Nat.pow_le_pow_right (by omega) hf) (by unfold B64; omega))
    have hi65 : ii < 65 := by omega
    have hcell : wr.cell? ⟨w.heap.size, ii, none⟩ = some (.int .u8 ((bs.getD ii 0 : Nat) : Int)) := hrow.cell (by omega)
    have hfz : wr.frozen? ⟨w.heap.size, ii, none⟩ = false := hrow.free _
    generalize bs.getD ii 0 = old at hcell
    have HII := Lib.hid hii; clear hii
    by_cases hlow : u < 2
    · have hd' := fmt_last hlow (i := ii) (by omega) hd
      have hset := hrow.set ii (dch u)
      have hcv := str133 hset.1 (by rw [List.length_set, hlen]) hi65 hd' (dgs_lt (by omega) (by omega) _ _)
      have hcut := fun W => cut133 w.heap.size ii hi65 W
      have HB := Lib.hid (below_of_grown hbel hset.2 (Nat.le_refl _) hbel.size)
      have hdig := fun w => dig_at u (by omega) w
      clear hd hrow hlen hbel hu hub hd' hset
      go_wp2
      go_ret2
      exact ⟨rfl, HB.out⟩
    · have hf1 : 1 ≤ f := by
        rcases Nat.eq_zero_or_pos f with h | h
        · subst h; omega
        · exact h
      obtain ⟨f, rfl⟩ : ∃ g, f = g + 1 := ⟨f - 1, by omega⟩
      have hdv : dv u 2 < 2 ^ (f + 1) := by
        unfold dv
        rw [Nat.div_lt_iff_lt_mul (by omega), ← Nat.pow_succ]; exact hu
      have HD := Lib.hid (fmt_step hlow (i := ii) (by omega) hd)
      have HR := Lib.hid hrow; have HL := Lib.hid hlen; have HB := Lib.hid hbel; have HDV := Lib.hid hdv
      have hand := and1 u hub
      have hdig := fun w => dig_md 2 (by omega) (by omega) u w
      have hdv' := dv2 u
      have hi1 : 1 ≤ ii := by have := HII.out; omega
      clear hd hrow hlen hbel hu hub hdv
      go_wp2
      go_roundw
      case rel =>
        have hset := HR.out.set ii (dch (md u 2))
        refine ⟨f, dv u 2, ii - 1, _, by omega, by have := HII.out; omega, HDV.out, rfl, by congr 1; omega, hset.1, by rw [List.length_set, HL.out], ?_, below_of_grown HB.out hset.2 (Nat.le_refl _) HB.out.size⟩
        rw [show ii - 1 + 1 = ii by omega]
        exact HD.out
      case measure => simp [intOf]

theorem intFmt16 (n : Nat) (hn : n < B64) (w : World) (hz : TZ w) :
    Calls Tryz.prog 96 #[.int .u64 ((n : Nat) : Int), .int .i64 16] w fun e w' => e = .returned (.string ⟨(toBytes (dgs 16 16 n)).toArray⟩) ∧ Below w.heap.size w w' := by
  go_enter Tryz.func96, Tryz.ntmps96
  go_wp2_with fail
  refine (fmtBits16 n hn _ hz).mono ?_
  rintro e w' ⟨rfl, hb⟩
  have HB := Lib.hid hb; clear hb
  go_wp2
  go_ret
  exact ⟨rfl, HB.out⟩
theorem fmt16 (n : Nat) (hn : n < B64) (w : World) (hz : TZ w) :
    Calls Tryz.prog 61 #[.int .u64 ((n : Nat) : Int), .int .i64 16] w fun e w' => e = .returned (.string ⟨(toBytes (dgs 16 16 n)).toArray⟩) ∧ Below w.heap.size w w' := by
  go_enter Tryz.func61, Tryz.ntmps61
  go_wp2_with fail
  refine (intFmt16 n hn _ hz).mono ?_
  rintro e w' ⟨rfl, hb⟩
  have HB := Lib.hid hb; clear hb
  go_wp2
  go_ret
  exact ⟨rfl, HB.out⟩

theorem intFmt2 (n : Nat) (hn : n < B64) (w : World) (hz : TZ w) :
    Calls Tryz.prog 96 #[.int .u64 ((n : Nat) : Int), .int .i64 2] w fun e w' => e = .returned (.string ⟨(toBytes (dgs 2 64 n)).toArray⟩) ∧ Below w.heap.size w w' := by
  go_enter Tryz.func96, Tryz.ntmps96
  go_wp2_with fail
  refine (fmtBits2 n hn _ hz).mono ?_
  rintro e w' ⟨rfl, hb⟩
  have HB := Lib.hid hb; clear hb
  go_wp2
  go_ret
  exact ⟨rfl, HB.out⟩
theorem fmt2 (n : Nat) (hn : n < B64) (w : World) (hz : TZ w) :
    Calls Tryz.prog 61 #[.int .u64 ((n : Nat) : Int), .int .i64 2] w fun e w' => e = .returned (.string ⟨(toBytes (dgs 2 64 n)).toArray⟩) ∧ Below w.heap.size w w' := by
  go_enter Tryz.func61, Tryz.ntmps61
  go_wp2_with fail
  refine (intFmt2 n hn _ hz).mono ?_
  rintro e w' ⟨rfl, hb⟩
  have HB := Lib.hid hb; clear hb
  go_wp2
  go_ret
  exact ⟨rfl, HB.out⟩
end Go.Proofs.YtehdfkafdpfdnaaGreatDoor

/- mulAdd, addTimes. -/
namespace Go.Proofs.YtehdfkafdpfdnaaGreatDoor
open Go.RowKit Mth

theorem mul64_any (x y : Nat) (hx : x < B64) (hy : y < B64) (w : World) :
    Calls Tryz.prog 100 #[.int .u64 x, .int .u64 y] w fun e w' => e = .returned (.tuple #[.int .u64 ((mHi x y : Nat) : Int), .int .u64 ((mLo x y : Nat) : Int)]) ∧ w = w' :=
  (Go.Proofs.Tryz.bits_Mul64 x y hx hy w).mono fun _ _ ⟨he, hw⟩ => ⟨he, hw.symm⟩
theorem wrap_u64 (n : Nat) (h : n < B64) : IntKind.u64.wrap (n : Int) = n := by
  rw [IntKind.wrap_u64]; unfold B64 at h; omega

set_option maxRecDepth 100000 in
theorem mulAdd_any (x y p : Nat) (hx : x < B64) (hy : y < B64) (hp : p < B64) (w : World) :
    Calls Tryz.prog 151 #[.int .u64 x, .int .u64 y, .int .u64 p] w fun e w' =>
      e = .returned (.tuple #[.int .u64 ((pHi x y p : Nat) : Int), .int .u64 ((pLo x y p : Nat) : Int)]) ∧ w = w' := by
  have M := pHi_lt hx hy hp
  have HM := Lib.hid M; clear M
  have hadd := fun (x y : Nat) (w : World) => add64_run0 x y w
  have HX := Lib.hid hx; have HY := Lib.hid hy; clear hx hy hp
  go_enter Tryz.func151, Tryz.ntmps151
  go_wp2_with fail
  refine (mul64_any _ _ HX.out HY.out _).mono ?_
  rintro e w' ⟨rfl, rfl⟩
  go_wp2
  go_ret2
  obtain ⟨e1, e2⟩ := p_steps (x := x) (y := y) (p := p)
  have e3 := wrap_u64 _ HM.out
  rw [← e2] at e3
  refine ⟨?_, rfl⟩
  rw [← e1, ← e2, ← e3, Int.natCast_add]
  rfl

theorem of_any (x : Nat) (hx : x < B64) (w : World) :
    Calls Tryz.prog 80 #[.int .u64 x] w fun e w' => ∃ v', e = .returned v' ∧ Below w.heap.size w w' ∧ Num w' v' x := by
  have HX := Lib.hid hx; clear hx
  by_cases h0 : x = 0
  · have hd : ((x : Int) == 0) = true := by rw [h0]; rfl
    have H0 := Lib.hid h0; clear h0
    go_enter Tryz.func80, Tryz.ntmps80
    go_wp2
    go_ret
    exact ⟨_, rfl, Below.refl _ _, by rw [H0.out]; exact num_nil _⟩
  · have hd : ((x : Int) == 0) = false := by simp; omega
    have H0 := Lib.hid h0; clear h0
    go_enter Tryz.func80, Tryz.ntmps80
    go_wp2
    go_ret
    have hrow : Row (w.alloc (Obj.cells #[Value.int IntKind.u64 (x : Int)] 55)) 55 .u64 w.heap.size [x] := heap_alloc_new w _
    have hb : Below w.heap.size w (w.alloc (Obj.cells #[Value.int IntKind.u64 (x : Int)] 55)) := (Below.refl _ _).alloc (Nat.le_refl _) _
    refine ⟨_, rfl, hb, [x], hrow.sl_all (by simp), ?_, ?_, by simp [val]⟩
    · exact lim_cons.2 ⟨HX.out, lim_nil (by have := B64_pos; omega)⟩
    · simp [Top, tlen, H0.out]

end Go.Proofs.YtehdfkafdpfdnaaGreatDoor

/- nat.times: the product of two numbers above 0. -/
namespace Go.Proofs.YtehdfkafdpfdnaaGreatDoor
open Go.RowKit Mth

end Go.Proofs.YtehdfkafdpfdnaaGreatDoor

/- nat.product and nat.Mul: the product of many numbers. -/
namespace Go.Proofs.YtehdfkafdpfdnaaGreatDoor
open Go.RowKit Mth

end Go.Proofs.YtehdfkafdpfdnaaGreatDoor

/- nat.product of many, nat.Mul. -/
namespace Go.Proofs.YtehdfkafdpfdnaaGreatDoor
open Go.RowKit Mth

end Go.Proofs.YtehdfkafdpfdnaaGreatDoor
