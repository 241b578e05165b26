/- tribunalref02: Text, Print. -/
import Derived.Test.YtckmpnfadpnaeaaDoorYL
import Derived.Test.YtckmpnfadpnaeaaDoorPrMath
import Derived.Test.YtckmpnfadpnaeaaDoorZR
import Derived.Laws.IdiomStrings
set_option linter.unusedVariables false
set_option linter.unusedSimpArgs false
namespace Go.Proofs.YtckmpnfadpnaeaaDoor
open Go.RowKit Mth

def cellNat16 (w : World) (b off j : Nat) : Nat := match w.cell? ⟨b, off + j, none⟩ with | some (.int _ z) => z.toNat | _ => 0
def numIn16 (w : World) : Value → Nat
  | .slice (some a) n _ => val B16 ((List.range n).map (cellNat16 w a.block a.off))
  | _ => 0
theorem numIn16_eq {w : World} {v : Value} {xs : List Nat} (h : Sl w .u16 v xs) : numIn16 w v = val B16 xs := by
  obtain ⟨ao, cap, rfl, h1, h2, h3, h4, h5⟩ := h
  by_cases hp : 0 < xs.length
  · obtain ⟨b, off, rfl, hb, hc⟩ := h5 hp
    have e : (List.range xs.length).map (cellNat16 w b off) = xs := by
      apply List.ext_getElem
      · simp
      · intro j hj1 hj2
        simp only [List.getElem_map, List.getElem_range, cellNat16]
        rw [hc j hj2]
        simp [List.getD_eq_getElem?_getD, hj2]
    show val B16 ((List.range xs.length).map (cellNat16 w b off)) = _
    rw [e]
  · have : xs = [] := List.eq_nil_of_length_eq_zero (by omega)
    subst this
    cases ao <;> rfl
theorem numIn16_num {w : World} {v : Value} {n : Nat} (h : QNum w v n) : numIn16 w v = n := by
  obtain ⟨xs, s, _, _, rfl⟩ := h
  exact numIn16_eq s
/-- a number of one digit at most -/
theorem qone {w : World} {v : Value} {m : Nat} (h : QNum w v m) (hm : m < 65536) : (m = 0 ∧ ∃ ao c, v = .slice ao 0 c) ∨ (m ≠ 0 ∧ ∃ b off c, v = .slice (some ⟨b, off, none⟩) 1 c ∧ w.cell? ⟨b, off, none⟩ = some (.int .u16 (m : Int))) := by
  obtain ⟨ys, s, l, t, rfl⟩ := h
  have hl := length_of_val B16_pos t 1 (by unfold B16 at *; simpa using hm)
  match ys, hl, s, t with
  | [], _, s, _ =>
    obtain ⟨ao, c, rfl⟩ := s.shape
    exact .inl ⟨rfl, ao, c, rfl⟩
  | [y], _, s, t =>
    obtain ⟨b, off, c, rfl, _, _, _, hc⟩ := s.pos (by simp)
    have hv : val B16 [y] = y := by simp [val]
    refine .inr ⟨?_, b, off, c, rfl, ?_⟩
    · have := val_ge_top (B := B16) t (by simp)
      simp at this
      omega
    · rw [hv]; simpa using hc 0 (by simp)
theorem qlen_lit (w : World) (y : Nat) (hy : y < 65536) (h0 : y ≠ 0) : QLen (w.alloc (Obj.cells #[Value.int .u16 ((y : Nat) : Int)] 98)) (.slice (some ⟨w.heap.size, 0, none⟩) 1 1) y := by
  have hrow : Row (w.alloc (Obj.cells #[Value.int .u16 ((y : Nat) : Int)] 98)) 98 .u16 w.heap.size [y] := heap_alloc_new w _
  have hsl := hrow.sl_all (by simp)
  refine ⟨[y], hsl, lim_cons.2 ⟨hy, lim_nil (by have := B16_pos; omega)⟩, ?_, by simp [val], by simp⟩
  simp [Top, tlen, h0]
theorem cat_lists (A S : List Nat) : (⟨(toBytes A).toArray⟩ : ByteArray) ++ ⟨(toBytes S).toArray⟩ = ⟨(toBytes (A ++ S)).toArray⟩ := by
  apply ByteArray.ext
  simp [toBytes]
theorem u8_int {q : Nat} (h : q < 256) : (((q : Nat).toUInt8).toNat : Int) = (q : Int) := by
  rw [Nat.toUInt8, UInt8.toNat_ofNat']; omega
theorem one_byte {w : World} {g : Nat} {cs : Array Value} {q j : Nat} (hw : w.heap[g]? = some (.cells cs 5 (0, 0))) (hc : cs[j]? = some (.int .u8 (q : Int))) (hq : q < 256) : w.cell? (Addr.add ⟨g, 0, none⟩ j) = some (.int .u8 (((q : Nat).toUInt8).toNat : Int)) := by
  rw [Addr.add_lit, Nat.zero_add, cell_of_row _ g j _ _ (0, 0) hw, hc, u8_int hq]
/-- string([]byte{..}) of four bytes -/
theorem four_string (w : World) (d0 d1 d2 d3 : Int) (q0 q1 q2 q3 : Nat) (e0 : d0 = (q0 : Int)) (e1 : d1 = (q1 : Int)) (e2 : d2 = (q2 : Int)) (e3 : d3 = (q3 : Int)) (h0 : q0 < 256) (h1 : q1 < 256) (h2 : q2 < 256) (h3 : q3 < 256) :
    (convert 112 9 (.slice (some ⟨w.heap.size, 0, none⟩) 4 4)).run Tryd.prog (w.alloc (Obj.cells #[Value.int .u8 d0, Value.int .u8 d1, Value.int .u8 d2, Value.int .u8 d3] 5)) =
      .ok (.string ⟨(toBytes [q0, q1, q2, q3]).toArray⟩) (w.alloc (Obj.cells #[Value.int .u8 d0, Value.int .u8 d1, Value.int .u8 d2, Value.int .u8 d3] 5)) := by
  subst e0 e1 e2 e3
  refine run_convert_bytes_back _ 112 9 5 ⟨w.heap.size, 0, none⟩ 4 (toBytes [q0, q1, q2, q3]) Tryd.underlying112 Tryd.underlying5 Tryd.underlying9 ?_
  have hw := heap_alloc_new w (Obj.cells #[Value.int .u8 (q0 : Int), Value.int .u8 (q1 : Int), Value.int .u8 (q2 : Int), Value.int .u8 (q3 : Int)] 5)
  intro j hj
  match j, hj with
  | 0, _ => exact one_byte hw rfl h0
  | 1, _ => exact one_byte hw rfl h1
  | 2, _ => exact one_byte hw rfl h2
  | 3, _ => exact one_byte hw rfl h3
  | j + 4, hj => exact absurd hj (by rw [length_toBytes]; simp)
theorem four_q4 (w : World) (m : Nat) (hm : m < 10000) :
    (convert 112 9 (.slice (some ⟨w.heap.size, 0, none⟩) 4 4)).run Tryd.prog (w.alloc (Obj.cells #[Value.int .u8 (48 + (m : Int) / 1000), Value.int .u8 (48 + (m : Int) / 100 % 10), Value.int .u8 (48 + (m : Int) / 10 % 10), Value.int .u8 (48 + (m : Int) % 10)] 5)) =
      .ok (.string ⟨(toBytes (q4 m)).toArray⟩) (w.alloc (Obj.cells #[Value.int .u8 (48 + (m : Int) / 1000), Value.int .u8 (48 + (m : Int) / 100 % 10), Value.int .u8 (48 + (m : Int) / 10 % 10), Value.int .u8 (48 + (m : Int) % 10)] 5)) :=
  four_string w _ _ _ _ (48 + m / 1000) (48 + m / 100 % 10) (48 + m / 10 % 10) (48 + m % 10) (by omega) (by omega) (by omega) (by omega) (by omega) (by omega) (by omega) (by omega)
theorem four_q0 (w : World) :
    (convert 112 9 (.slice (some ⟨w.heap.size, 0, none⟩) 4 4)).run Tryd.prog (w.alloc (Obj.cells #[Value.int .u8 48, Value.int .u8 48, Value.int .u8 48, Value.int .u8 48] 5)) =
      .ok (.string ⟨(toBytes (q4 0)).toArray⟩) (w.alloc (Obj.cells #[Value.int .u8 48, Value.int .u8 48, Value.int .u8 48, Value.int .u8 48] 5)) :=
  four_string w 48 48 48 48 48 48 48 48 rfl rfl rfl rfl (by omega) (by omega) (by omega) (by omega)
theorem sgn_ge {z : Int} (h : sgn z = false) : 0 ≤ z := by
  rcases Int.lt_or_le z 0 with h2 | h2
  · rw [sgn_neg h2] at h; cases h
  · exact h2
def strLen : Value → Nat
  | .string s => s.size
  | _ => 0
theorem cut_first (d : Nat) (U : List Nat) : (⟨(toBytes (d :: U)).toArray⟩ : ByteArray).extract 1 (U.length + 1) = ⟨(toBytes U).toArray⟩ := by
  apply ByteArray.ext
  rw [ByteArray.data_extract]
  apply Array.ext'
  simp [toBytes]
  exact List.take_of_length_le (by simp)
theorem first_byte (d : Nat) (hd : d < 256) (U : List Nat) (w : World) : (Instr.index 9 (.string ⟨(toBytes (d :: U)).toArray⟩) (.int .i64 0)).run Tryd.prog w = .ok (.int .u8 (d : Int)) w := by
  have h : (Instr.index 9 (.string ⟨(toBytes (d :: U)).toArray⟩) (.int .i64 0)).run Tryd.prog w = .ok (.int .u8 ((d.toUInt8).toNat : Int)) w := by kernel_rfl
  rw [h, u8_int hd]

/-- what Text's first loop holds -/
def TxZ (w wr : World) (N : Nat) (sv dv : Value) : Prop := ∃ (n : Nat) (S : List Nat), QNum wr dv n ∧ sv = .string ⟨(toBytes S).toArray⟩ ∧ TzI N n S ∧ Below w.heap.size w wr
def TxY (w wr : World) (N : Nat) (sv : Value) : Prop := ∃ S : List Nat, sv = .string ⟨(toBytes S).toArray⟩ ∧ TzJ N S ∧ S.length ≤ 100000 ∧ Below w.heap.size w wr

set_option maxHeartbeats 4000000 in
set_option maxRecDepth 100000 in
theorem textZ_any (va : Value) (z : Int) (w : World) (ha : ZV w va z) (hz : z.natAbs < Big) :
    Calls Tryd.prog 52 #[va] w fun e w' => e = .returned (.string ⟨(toBytes (zS z)).toArray⟩) ∧ Below w.heap.size w w' := by
  obtain ⟨n1, a1, k1, c1, rfl⟩ := ha.shape
  obtain ⟨rfl, xs, s1, l1, t1, e1, rfl⟩ := ha.parts
  have Q0 : Hid (QNum w (.slice a1 xs.length c1) z.natAbs) := Lib.hid ⟨xs, s1, l1, t1, e1⟩
  have HB := Lib.hid hz
  clear ha s1 l1 t1 e1 hz
  go_enter Tryd.func52, Tryd.ntmps52
  go_wp2_with fail
  obtain ⟨W, eW, h1, bel, hsz⟩ := alloc1 w (Obj.cells #[Value.bool (sgn z), Value.slice a1 xs.length c1] 62)
  rw [eW]
  have H1 := Lib.hid h1; have BEL := Lib.hid bel; have HSZ := Lib.hid hsz
  clear eW h1 bel hsz
  go_loopw [3, 4] (fun sv dv wr => TxZ W wr z.natAbs sv dv) (fun _ dv wr => numIn16 wr dv)
  case atStart => exact ⟨_, [], Q0.out.below BEL.out, rfl, tzI_start _, Below.refl _ _⟩
  case round =>
    obtain ⟨n, S, hq, rfl, hI, hbel⟩ := hrel
    have HNUM := Lib.hid (numIn16_num hq)
    have HI := Lib.hid hI; have HBL := Lib.hid hbel
    have hSl := tz_len hI HB.out
    have hSz : (⟨(toBytes S).toArray⟩ : ByteArray).size ≤ 100000 := by rw [str_len]; exact hSl
    obtain ⟨ys, s, l, t, hv⟩ := hq
    obtain ⟨ao, c, rfl⟩ := s.shape
    by_cases h0 : 0 < ys.length
    · have hn0 : n ≠ 0 := by
        have := val_ge_top (B := B16) t h0
        have h2 : 0 < B16 ^ (ys.length - 1) := Nat.pow_pos (by unfold B16; omega)
        omega
      have STEP := Lib.hid (tzI_step hI hn0)
      have HS := Lib.hid s; have HL := Lib.hid l; have HV := Lib.hid hv
      have HLT : Hid (n / 10000 < n) := Lib.hid (Nat.div_lt_self (by omega) (by omega))
      have hm : n % 10000 < 10000 := Nat.mod_lt _ (by omega)
      clear hI hbel s l t hv hn0
      go_wp2_with fail
      refine (divD_any _ _ ys 10000 _ (HS.out.below ((Below.refl _ _).alloc (Nat.le_refl _) _)) HL.out (qlen_lit wr 10000 (by omega) (by omega)) (by omega)).mono ?_
      rintro e w2 ⟨vq, vr, rfl, hq2, hr2, hb2⟩
      rw [HV.out] at hq2 hr2
      have HQ := Lib.hid hq2
      have B2 := Lib.hid (below_of HBL.out (below_of ((Below.refl _ _).alloc (Nat.le_refl _) _) hb2))
      obtain ⟨aq, kq, cq, rfl⟩ := hq2.shape
      have hone := qone hr2 (by omega)
      clear hq2 hr2 hb2
      generalize n % 10000 = m at *
      have hs4 : (⟨(toBytes (q4 m)).toArray⟩ : ByteArray).size ≤ 4 := by rw [str_len]; exact Nat.le_refl 4
      have cat := cat_lists (q4 m) S
      have cv := four_q4 w2 m hm
      have cv0 := four_q0 w2
      rcases hone with ⟨rfl, ar, cr, rfl⟩ | ⟨hm0, br, offr, cr, rfl, hcr⟩
      · clear cv
        go_wp2
        go_roundw
        case rel => exact ⟨_, _, HQ.out.below ((Below.refl _ _).alloc (Nat.le_refl _) _), rfl, STEP.out, B2.out.alloc B2.out.size _⟩
        case measure => rw [HNUM.out, numIn16_num (HQ.out.below ((Below.refl _ _).alloc (Nat.le_refl _) _))]; exact HLT.out
      · clear cv0
        go_wp2
        go_roundw
        case rel => exact ⟨_, _, HQ.out.below ((Below.refl _ _).alloc (Nat.le_refl _) _), rfl, STEP.out, B2.out.alloc B2.out.size _⟩
        case measure => rw [HNUM.out, numIn16_num (HQ.out.below ((Below.refl _ _).alloc (Nat.le_refl _) _))]; exact HLT.out
    · have hy : ys = [] := List.eq_nil_of_length_eq_zero (by omega)
      subst hy
      obtain rfl : n = 0 := hv.symm
      have HJ := Lib.hid (tzJ_start hI)
      clear hI hbel s l t hv HI HNUM h0
      obtain ⟨wo, rfl⟩ : ∃ wo : World, wo = wr := ⟨_, rfl⟩
      go_wp2
      go_loopw [3] (fun sv wr' => TxY W wr' z.natAbs sv) (fun sv _ => strLen sv)
      case atStart => exact ⟨S, rfl, HJ.out, hSl, HBL.out⟩
      case round =>
        obtain ⟨T, rfl, hJ, hl, hbel⟩ := hrel
        obtain ⟨p0, p1, _, _, _⟩ := blk2 ((hbel.block _ HSZ.out).trans H1.out)
        have HBT := Lib.hid hbel
        have hcs := tzJ_cases hJ
        clear hJ hbel
        rcases hcs with ⟨U, rfl, hU, hJU⟩ | ⟨h0, rfl⟩ | ⟨h0, hT, d, r, rfl, hd, hd2⟩
        · have hsz : (⟨(toBytes (48 :: U)).toArray⟩ : ByteArray).size = U.length + 1 := str_len _
          have hex := cut_first 48 U
          have hix := first_byte 48 (by omega) U
          have HJU := Lib.hid hJU
          have HUL : Hid (U.length ≤ 100000) := Lib.hid (by simp at hl; omega)
          have hul : U.length ≤ 100000 := HUL.out
          clear hJU hl
          go_wp2
          go_roundw
          case rel => first | exact ⟨U, rfl, HJU.out, HUL.out, HBT.out⟩ | ((repeat apply Exists.intro); exact ⟨⟨U, rfl, HJU.out, HUL.out, HBT.out⟩, rfl⟩)
          case measure => simp [strLen, str_len]
        · have E : Hid (zS z = [48]) := Lib.hid (by
            rw [zS_pos HB.out (by omega), h0]; rfl)
          clear h0 hl
          go_wp2
          go_ret
          exact ⟨by rw [E.out]; rfl, below_of BEL.out HBT.out⟩
        · have hsz : (⟨(toBytes (d :: r)).toArray⟩ : ByteArray).size = r.length + 1 := str_len _
          have hix := first_byte d hd2 r
          have hdb : ((d : Int) == 48) = false := by rw [beq_eq_false_iff_ne]; omega
          have hne : (toBytes (d :: r)).isEmpty = false := rfl
          have hrl : r.length ≤ 100000 := by simp at hl; omega
          have hmn := minus_bytes (d :: r)
          have EP : Hid (sgn z = false → zS z = d :: r) := Lib.hid (fun h => by rw [zS_pos HB.out (sgn_ge h), hT])
          have EN : Hid (sgn z = true → zS z = 45 :: d :: r) := Lib.hid (fun h => by rw [zS_neg HB.out (of_sgn_true h), hT])
          clear hT hl h0 hd hd2
          by_cases hr : 0 < r.length
          all_goals
            cases hs : sgn z
            · have E := Lib.hid (EP.out hs)
              go_wp2
              go_ret
              exact ⟨by rw [E.out]; rfl, below_of BEL.out HBT.out⟩
            · have E := Lib.hid (EN.out hs)
              go_wp2
              go_ret
              exact ⟨by rw [E.out]; rfl, below_of BEL.out HBT.out⟩

set_option maxRecDepth 100000 in
theorem longZ_any (v : Value) (z : Int) (w : World) (h : ZV w v z) : Calls Tryd.prog 51 #[v] w fun e w' => e = .returned (.bool (decide (Big ≤ z.natAbs))) ∧ Below w.heap.size w w' := by
  obtain ⟨n, ao, k, c, rfl⟩ := h.shape
  have hl := h.long
  have E : Hid (decide ((16384 : Int) < (k : Int)) = decide (Big ≤ z.natAbs)) := Lib.hid (by
    by_cases hb : Big ≤ z.natAbs
    · rw [decide_eq_true hb, decide_eq_true (by have := hl.2 hb; omega)]
    · rw [decide_eq_false hb, decide_eq_false (fun h => hb (hl.1 (by omega)))])
  clear h hl
  go_enter Tryd.func51, Tryd.ntmps51
  go_wp2
  go_ret
  exact ⟨by rw [← E.out]; rfl, (Below.refl _ _).alloc (Nat.le_refl _) _⟩

set_option maxHeartbeats 1000000 in
set_option maxRecDepth 100000 in
theorem rprint_any (v : Value) (z : Int) (w : World) (h : IntV w v z) : Calls Tryd.prog 21 #[v] w fun e w' => e = .returned (.tuple #[.string ⟨(toBytes (zS z)).toArray⟩, .int .i64 (zE z)]) ∧ Below w.heap.size w w' := by
  obtain ⟨n, ao, k, c, rfl⟩ := h.shape
  have H := Lib.hid h; clear h
  go_enter Tryd.func21, Tryd.ntmps21
  go_wp2_with fail
  obtain ⟨W, eW, h1, bel, hsz⟩ := alloc1 w (Obj.cells #[Value.bool n, Value.slice ao k c] 25)
  rw [eW]
  have BEL := Lib.hid bel
  clear eW h1 hsz
  refine (from_any2 _ z W (H.out.below bel)).mono ?_
  rintro e w1 ⟨v1, rfl, hz, hb1⟩
  obtain ⟨n1, a1, k1, c1, rfl⟩ := hz.shape
  have B1 := Lib.hid (below_of bel hb1)
  have HZ := Lib.hid hz
  clear bel hb1 hz
  go_wp2_with fail
  obtain ⟨V, eV, hV, belV, hszV⟩ := alloc1 w1 (Obj.cells #[Value.bool n1, Value.slice a1 k1 c1] 62)
  rw [eV]
  have BV := Lib.hid (below_of B1.out belV)
  have ZV' := Lib.hid (HZ.out.below belV)
  have HV := Lib.hid hV
  clear eV hV belV
  refine (longZ_any _ z V ZV'.out).mono ?_
  rintro e w2 ⟨rfl, hb2⟩
  have B2 := Lib.hid (below_of BV.out hb2)
  have Z2 := Lib.hid (ZV'.out.below hb2)
  obtain ⟨p0, p1, _, _, _⟩ := blk2 ((hb2.block _ hszV).trans HV.out)
  clear hb2
  by_cases hb : Big ≤ z.natAbs
  · have hd : decide (Big ≤ z.natAbs) = true := decide_eq_true hb
    have E := Lib.hid (z_big hb); have ES := Lib.hid (zS_big hb)
    rw [hd]
    clear hd hb
    go_wp2
    go_ret2
    exact ⟨by rw [E.out.2, ES.out]; rfl, B2.out⟩
  · have hd : decide (Big ≤ z.natAbs) = false := decide_eq_false hb
    have E := Lib.hid (z_fine (Nat.lt_of_not_le hb)); have HB := Lib.hid (Nat.lt_of_not_le hb)
    rw [hd]
    clear hd hb
    go_wp2_with fail
    refine (textZ_any _ z w2 Z2.out HB.out).mono ?_
    rintro e w3 ⟨rfl, hb3⟩
    have B3 := Lib.hid (below_of B2.out hb3)
    clear hb3
    go_wp2
    go_ret2
    exact ⟨by rw [E.out.2]; rfl, B3.out⟩
end Go.Proofs.YtckmpnfadpnaeaaDoor
