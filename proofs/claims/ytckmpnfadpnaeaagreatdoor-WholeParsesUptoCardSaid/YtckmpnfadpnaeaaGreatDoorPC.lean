/- tribunalref02: Parse; package whole: Parse, of any text; WholeParses: the law's own walk. -/
import Derived.Test.YtckmpnfadpnaeaaGreatDoorPB
import Derived.Test.YtckmpnfadpnaeaaGreatDoorZT
set_option linter.unusedVariables false
set_option linter.unusedSimpArgs false
namespace Go.Proofs.YtckmpnfadpnaeaaGreatDoor
open Go.RowKit Mth

/-- has a text a minus ahead; what stands behind it -/
def psG (s : ByteArray) : Bool := Lib.hasPrefix s.data.toList [45]
def psD (s : ByteArray) : ByteArray := ⟨(Lib.trimPrefix s.data.toList [45]).toArray⟩
/-- what Parse answers -/
structure PsIs (s : ByteArray) (N : Int) (ER : Int) : Prop where
  no : ¬ okD (psD s) 10 → N = 0 ∧ ER = 13
  ok : okD (psD s) 10 → N = zN (sg (psG s) (pv (psD s) 10 (psD s).size)) ∧ ER = zE (sg (psG s) (pv (psD s) 10 (psD s).size))
theorem ps_ex (s : ByteArray) : ∃ N ER, PsIs s N ER := by
  by_cases h : okD (psD s) 10
  · exact ⟨_, _, fun h2 => absurd h h2, fun _ => ⟨rfl, rfl⟩⟩
  · exact ⟨0, 13, fun _ => ⟨rfl, rfl⟩, fun h2 => absurd h2 h⟩
theorem ps_nil : psG ⟨#[]⟩ = false ∧ psD ⟨#[]⟩ = ⟨#[]⟩ := ⟨rfl, rfl⟩
theorem ps_minus (l : List UInt8) : psG ⟨((45 : UInt8) :: l).toArray⟩ = true ∧ psD ⟨((45 : UInt8) :: l).toArray⟩ = ⟨l.toArray⟩ := by
  constructor
  · simp [psG, Lib.hasPrefix]
  · simp [psD, Lib.trimPrefix, Lib.hasPrefix]
theorem ps_other {x : UInt8} (l : List UInt8) (h : x ≠ 45) : psG ⟨(x :: l).toArray⟩ = false ∧ psD ⟨(x :: l).toArray⟩ = ⟨(x :: l).toArray⟩ := by
  have hp : Lib.hasPrefix (x :: l) [45] = false := by
    show (((45 : UInt8) == x) && List.isPrefixOf [] l) = false
    rw [beq_eq_false_iff_ne.2 (Ne.symm h)]; rfl
  constructor
  · simpa [psG] using hp
  · simp [psD, Lib.trimPrefix, hp]
theorem bytes_cases (s : ByteArray) : s = ⟨#[]⟩ ∨ ∃ (x : UInt8) (l : List UInt8), s = ⟨(x :: l).toArray⟩ := by
  obtain ⟨d⟩ := s
  obtain ⟨l⟩ := d
  cases l with
  | nil => exact .inl rfl
  | cons x l => exact .inr ⟨x, l, rfl⟩
theorem byte_first (x : UInt8) (l : List UInt8) (w : World) : (Instr.index 9 (.string ⟨(x :: l).toArray⟩) (.int .i64 0)).run Tryz.prog w = .ok (.int .u8 (x.toNat : Int)) w := by kernel_rfl
theorem bytes_cut (x : UInt8) (l : List UInt8) : (⟨(x :: l).toArray⟩ : ByteArray).extract 1 (l.length + 1) = ⟨l.toArray⟩ := by
  apply ByteArray.ext
  rw [ByteArray.data_extract]
  apply Array.ext'
  simp
theorem bytes_size (x : UInt8) (l : List UInt8) : (⟨(x :: l).toArray⟩ : ByteArray).size = l.length + 1 := by simp [ByteArray.size]
theorem psD_size (s : ByteArray) : (psD s).size ≤ s.size := by
  rcases bytes_cases s with rfl | ⟨x, l, rfl⟩
  · rw [ps_nil.2]; exact Nat.le_refl _
  · by_cases h : x = 45
    · subst h
      rw [(ps_minus l).2, bytes_size]; simp [ByteArray.size]
    · rw [(ps_other l h).2]; exact Nat.le_refl _

theorem QNum.d {w : World} {v : Value} {n : Nat} (h : QNum w v n) : DNum w v n := by
  obtain ⟨ys, s, l, _, e⟩ := h
  exact ⟨ys, s, l, e⟩
set_option maxHeartbeats 2000000 in
set_option maxRecDepth 100000 in
/-- the way on from the text behind the minus -/
theorem rparse_any2 (s : ByteArray) (N ER : Int) (w : World) (hs : s.size ≤ 20000) (hp : PsIs s N ER) : Calls Tryz.prog 27 #[.string s] w fun e w' => ∃ v', e = .returned (.tuple #[v', .int .i64 ER]) ∧ IntK w' v' N ∧ Below w.heap.size w w' := by
  have RD := Lib.hid (fun w1 => read_any (psD s) w1 (Nat.le_trans (psD_size s) hs))
  have HP := Lib.hid hp
  clear hp
  rcases bytes_cases s with rfl | ⟨x, l, rfl⟩
  · rw [ps_nil.2] at RD
    have NO := Lib.hid (HP.out.no (by rw [ps_nil.2]; exact fun h => h.1 rfl))
    clear HP hs
    go_enter Tryz.func27, Tryz.ntmps27
    go_wp2_with fail
    obtain ⟨W, eW, h1, bel, hsz⟩ := alloc1 w (Obj.cells #[Value.bool false, Value.slice none 0 0] 25)
    rw [eW]
    have H1 := Lib.hid h1; have B := Lib.hid bel; have HSZ := Lib.hid hsz
    clear eW h1 bel hsz
    refine (RD.out W).mono ?_
    rintro e w1 ⟨n1, a1, m1, c1, ok, rfl, hok, hno, hb1⟩
    cases ok
    rotate_left
    · exact absurd rfl (hok rfl).1.1
    have B1 := Lib.hid (below_of B.out hb1)
    have HR := Lib.hid ((hb1.block _ HSZ.out).trans H1.out)
    have hrb := blk_below' (nuc_new w1 (Obj.cells #[Value.bool n1, Value.slice a1 m1 c1] 53)) HR.out
    obtain ⟨k0, k1, g0, g1, _⟩ := blk2 hrb
    clear hok hno hb1 hrb
    go_wp2
    refine bodyPost_ret (v := .tuple #[.agg #[.bool false, .slice none 0 0], .int .i64 13]) ?_ rfl ⟨_, by rw [NO.out.2], by rw [NO.out.1]; exact intk_zero _, ((B1.out.alloc B1.out.size _).setCell (p := ⟨w.heap.size, 0, none⟩) (Nat.le_refl _) _).setCell (p := ⟨w.heap.size, 1, none⟩) (Nat.le_refl _) _⟩
    simp [results, Tryz.results27, go_sem, *]
  · have hsz := bytes_size x l
    have hix := byte_first x l
    have hex := bytes_cut x l
    have hll : l.length ≤ 20000 := by rw [hsz] at hs; omega
    have hg : ∃ (g : Bool) (d : ByteArray), psG ⟨(x :: l).toArray⟩ = g ∧ psD ⟨(x :: l).toArray⟩ = d ∧ ((g = true ∧ x = 45 ∧ d = ⟨l.toArray⟩) ∨ (g = false ∧ x ≠ 45 ∧ d = ⟨(x :: l).toArray⟩)) := by
      by_cases h : x = 45
      · subst h
        exact ⟨_, _, rfl, rfl, .inl ⟨(ps_minus l).1, rfl, (ps_minus l).2⟩⟩
      · exact ⟨_, _, rfl, rfl, .inr ⟨(ps_other l h).1, h, (ps_other l h).2⟩⟩
    obtain ⟨g, d, e1, e2, hc⟩ := hg
    have NO : Hid (¬ okD d 10 → N = 0 ∧ ER = 13) := Lib.hid (fun h => HP.out.no (by rw [e2]; exact h))
    have OK : Hid (okD d 10 → N = zN (sg g (pv d 10 d.size)) ∧ ER = zE (sg g (pv d 10 d.size))) := Lib.hid (fun h => by have := HP.out.ok (by rw [e2]; exact h); rwa [e1, e2] at this)
    rw [e2] at RD
    clear HP hs e1 e2
    have h45 : (x = 45 → ((x.toNat : Int) == 45) = true) ∧ (x ≠ 45 → ((x.toNat : Int) == 45) = false) := by
      refine ⟨fun h => by subst h; rfl, fun h => ?_⟩
      rw [beq_eq_false_iff_ne]
      intro e
      exact h (UInt8.toNat_inj.1 (by have : (45 : UInt8).toNat = 45 := rfl; omega))
    rcases hc with ⟨rfl, hx, rfl⟩ | ⟨rfl, hx, rfl⟩
    all_goals
      have hd := by first | exact h45.1 hx | exact h45.2 hx
      clear h45 hx
      go_enter Tryz.func27, Tryz.ntmps27
      go_wp2_with fail
      obtain ⟨W, eW, h1, bel, hszW⟩ := alloc1 w (Obj.cells #[Value.bool false, Value.slice none 0 0] 25)
      rw [eW]
      have H1 := Lib.hid h1; have B := Lib.hid bel; have HSZ := Lib.hid hszW
      clear eW h1 bel hszW
      refine (RD.out W).mono ?_
      rintro e w1 ⟨n1, a1, m1, c1, ok, rfl, hok, hno, hb1⟩
      have B1 := Lib.hid (below_of B.out hb1)
      have HR := Lib.hid ((hb1.block _ HSZ.out).trans H1.out)
      have hrb := blk_below' (nuc_new w1 (Obj.cells #[Value.bool n1, Value.slice a1 m1 c1] 53)) HR.out
      obtain ⟨k0, k1, g0, g1, hlt⟩ := blk2 hrb
      have HRB := Lib.hid hrb
      cases ok
      · have E := Lib.hid (NO.out (hno rfl))
        clear hok hno hb1 hrb
        go_wp2
        refine bodyPost_ret (v := .tuple #[.agg #[.bool false, .slice none 0 0], .int .i64 13]) ?_ rfl ⟨_, by rw [E.out.2], by rw [E.out.1]; exact intk_zero _, ((B1.out.alloc B1.out.size _).setCell (p := ⟨w.heap.size, 0, none⟩) (Nat.le_refl _) _).setCell (p := ⟨w.heap.size, 1, none⟩) (Nat.le_refl _) _⟩
        simp [results, Tryz.results27, go_sem, *]
      · obtain ⟨hk, hz⟩ := hok rfl
        have E := Lib.hid (OK.out hk)
        have hq := hz.digits
        rw [Int.natAbs_natCast] at hq
        have DN := hq.d
        have HD := Lib.hid DN
        clear hok hno hb1 hrb hz hq DN hk
        go_wp2_with fail
        obtain ⟨V, eV, hV, belV, hszV⟩ := alloc1 w1 (Obj.cells #[Value.bool n1, Value.slice a1 m1 c1] 53)
        rw [eV]
        have BV := Lib.hid (below_of B1.out belV)
        have HRV := Lib.hid (blk_below' belV HR.out)
        have HDV := Lib.hid (HD.out.below belV)
        clear eV hV belV hszV k0 k1 g0 g1 hlt HRB
        refine (make_dnum HDV.out _).mono ?_
        rintro e w2 ⟨v2, rfl, hz2, hb2⟩
        obtain ⟨n2, a2, m2, c2, rfl⟩ := hz2.shape
        have Z2 := Lib.hid hz2
        have B2 := Lib.hid (below_of BV.out hb2)
        have HR2 := Lib.hid (blk_below' hb2 HRV.out)
        clear hz2 hb2
        go_wp2_with fail
        refine (out_any2 _ _ w2 Z2.out).mono ?_
        rintro e w3 ⟨v3, rfl, hi, hb3⟩
        rw [← E.out.1] at hi
        rw [← E.out.2]
        obtain ⟨b5, a5, k5, c5, rfl⟩ := hi.shape
        have hR3 := blk_below' hb3 HR2.out
        obtain ⟨k0, k1, g0, g1, _⟩ := blk2 hR3
        have HF := Lib.hid (hi.far (y0 := .bool b5) (y1 := .slice a5 k5 c5) hR3)
        have B3 := Lib.hid (below_of B2.out hb3)
        clear hi hb3 hR3
        go_wp2
        refine bodyPost_ret (v := .tuple #[.agg #[.bool b5, .slice a5 k5 c5], .int .i64 ER]) ?_ rfl ⟨_, rfl, HF.out, (B3.out.setCell (p := ⟨w.heap.size, 0, none⟩) (Nat.le_refl _) _).setCell (p := ⟨w.heap.size, 1, none⟩) (Nat.le_refl _) _⟩
        simp [results, Tryz.results27, go_sem, *]
end Go.Proofs.YtckmpnfadpnaeaaGreatDoor
