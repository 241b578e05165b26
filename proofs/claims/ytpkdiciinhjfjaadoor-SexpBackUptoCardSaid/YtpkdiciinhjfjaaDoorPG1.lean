/- PXA PXB PXC PXD PXF PXG PXH PXI. -/
import Derived.Test.YtpkdiciinhjfjaaDoorNG1
import Derived.LoopTactic
import Derived.Deep.QuietTactic
import Derived.Test.YtpkdiciinhjfjaaDoorKG1
import Derived.Deep.LoopGhost
set_option linter.unusedVariables false
set_option linter.unusedSimpArgs false
/- sexp: nodes in memory; has, kidsOf. -/
namespace Go.Proofs.YtpkdiciinhjfjaaDoor
open Go.RowKit Mth

/-- a list of ints in memory -/
def InL (w : World) (v : Value) (l : List Int) : Prop := ∃ ao cap, v = .slice ao l.length cap ∧ (l ≠ [] → ∃ b off, ao = some ⟨b, off, none⟩ ∧ b < w.heap.size ∧ ∀ (j : Nat) x, l[j]? = some x → w.cell? ⟨b, off + j, none⟩ = some (.int .i64 x))
theorem InL.nil (w : World) : InL w (.slice none 0 0) [] := ⟨none, 0, rfl, fun h => absurd rfl h⟩
theorem InL.below {w w' : World} {v : Value} {l : List Int} (h : InL w v l) (hb : Below w.heap.size w w') : InL w' v l := by
  obtain ⟨ao, cap, h1, h2⟩ := h
  refine ⟨ao, cap, h1, fun hn => ?_⟩
  obtain ⟨b, off, e, hlt, hc⟩ := h2 hn
  exact ⟨b, off, e, Nat.lt_of_lt_of_le hlt hb.size, fun j x hx => (hb.cell (p := ⟨b, off + j, none⟩) hlt).trans (hc j x hx)⟩
theorem InL.shape {w : World} {v : Value} {l : List Int} (h : InL w v l) : ∃ ao cap, v = .slice ao l.length cap := by
  obtain ⟨ao, cap, e, _⟩ := h; exact ⟨ao, cap, e⟩
/-- a node: its kind, its token, its kids -/
structure Nd where
  kind : Int
  tok : Tk
  kids : List Int
/-- a list of nodes in memory, seven cells each -/
def SxL (w : World) (v : Value) (L : List Nd) : Prop := ∃ ao cap, v = .slice ao L.length cap ∧ (L ≠ [] → ∃ b off, ao = some ⟨b, off, none⟩ ∧ b < w.heap.size ∧ ∀ (i : Nat) nd, L[i]? = some nd →
  w.cell? ⟨b, off + i * 7, none⟩ = some (.int .i64 nd.kind) ∧ (∀ j u, (tkCells nd.tok)[j]? = some u → w.cell? ⟨b, off + i * 7 + 1 + j, none⟩ = some u) ∧ ∃ kv, w.cell? ⟨b, off + i * 7 + 6, none⟩ = some kv ∧ InL w kv nd.kids)
theorem SxL.nil (w : World) : SxL w (.slice none 0 0) [] := ⟨none, 0, rfl, fun h => absurd rfl h⟩
theorem SxL.below {w w' : World} {v : Value} {L : List Nd} (h : SxL w v L) (hb : Below w.heap.size w w') : SxL w' v L := by
  obtain ⟨ao, cap, h1, h2⟩ := h
  refine ⟨ao, cap, h1, fun hn => ?_⟩
  obtain ⟨b, off, e, hlt, hc⟩ := h2 hn
  refine ⟨b, off, e, Nat.lt_of_lt_of_le hlt hb.size, fun i nd hi => ?_⟩
  obtain ⟨c0, c1, kv, c2, c3⟩ := hc i nd hi
  exact ⟨(hb.cell (p := ⟨b, off + i * 7, none⟩) hlt).trans c0, fun j u hj => (hb.cell (p := ⟨b, off + i * 7 + 1 + j, none⟩) hlt).trans (c1 j u hj), kv, (hb.cell (p := ⟨b, off + i * 7 + 6, none⟩) hlt).trans c2, c3.below hb⟩
theorem SxL.shape {w : World} {v : Value} {L : List Nd} (h : SxL w v L) : ∃ ao cap, v = .slice ao L.length cap := by
  obtain ⟨ao, cap, e, _⟩ := h; exact ⟨ao, cap, e⟩
/-- the node of a number -/
def ndAt (L : List Nd) (n : Int) : Option Nd := if 0 ≤ n then L[n.toNat]? else none
/-- a list's kids -/
def kidsF (L : List Nd) (n : Int) : List Int := match ndAt L n with
  | some nd => if nd.kind = 2 then nd.kids else []
  | none => []
theorem ndAt_some {L : List Nd} {k : Nat} (h : k < L.length) : ndAt L (k : Int) = some L[k] := by
  unfold ndAt; rw [if_pos (by omega), Int.toNat_natCast, List.getElem?_eq_getElem h]
theorem ndAt_none {L : List Nd} {n : Int} (h : ¬ (0 ≤ n ∧ n < L.length)) : ndAt L n = none := by
  unfold ndAt
  split
  · rw [List.getElem?_eq_none]; omega
  · rfl
set_option maxRecDepth 100000 in
theorem has_any (v : Value) (L : List Nd) (n : Int) (w : World) (h : SxL w v L) : Calls Tryd.prog 24 #[v, .int .i64 n] w fun e w' => e = .returned (.bool (decide (0 ≤ n) && decide (n < L.length))) ∧ w' = w := by
  obtain ⟨ao, cap, rfl⟩ := h.shape
  clear h
  by_cases h0 : 0 ≤ n
  · have d1 : decide (0 ≤ n) = true := decide_eq_true h0
    rw [d1, Bool.true_and]
    go_enter Tryd.func24, Tryd.ntmps24
    go_wp2
    go_ret
    exact ⟨rfl, rfl⟩
  · have d1 : decide (0 ≤ n) = false := decide_eq_false h0
    rw [d1, Bool.false_and]
    go_enter Tryd.func24, Tryd.ntmps24
    go_wp2
    go_ret
    exact ⟨rfl, rfl⟩
theorem has_yes {L : List Nd} {k : Nat} (h : k < L.length) : (decide ((0 : Int) ≤ (k : Int)) && decide ((k : Int) < (L.length : Int))) = true := by
  rw [decide_eq_true (show (0 : Int) ≤ k by omega), decide_eq_true (show (k : Int) < L.length by omega)]; rfl
theorem has_no {L : List Nd} {n : Int} (h : ¬ (0 ≤ n ∧ n < L.length)) : (decide (0 ≤ n) && decide (n < (L.length : Int))) = false := by
  rw [← Bool.decide_and]; exact decide_eq_false h
set_option maxHeartbeats 2000000 in
set_option maxRecDepth 100000 in
theorem kidsOf_any (v : Value) (L : List Nd) (n : Int) (w : World) (h : SxL w v L) : Calls Tryd.prog 29 #[v, .int .i64 n] w fun e w' => ∃ v', e = .returned v' ∧ InL w v' (kidsF L n) ∧ w' = w := by
  have H := Lib.hid h
  have HA := Lib.hid (has_any v L n w h)
  by_cases hn : 0 ≤ n ∧ n < L.length
  · obtain ⟨k, rfl⟩ : ∃ k : Nat, n = k := ⟨n.toNat, by omega⟩
    have hk : k < L.length := by omega
    have hx : L[k]? = some L[k] := List.getElem?_eq_getElem hk
    have hne : L ≠ [] := fun e => by rw [e] at hk; simp at hk
    have KF : Hid (kidsF L (k : Int) = if (L[k]).kind = 2 then (L[k]).kids else []) := Lib.hid (by unfold kidsF; rw [ndAt_some hk])
    rw [has_yes hk] at HA
    obtain ⟨ao, cap, rfl, hc⟩ := h
    obtain ⟨b, off, rfl, hlt, hcc⟩ := hc hne
    obtain ⟨c0, -, kv, c6, hkv⟩ := hcc k _ hx
    have HKV := Lib.hid hkv
    obtain ⟨ka, kc, rfl⟩ := hkv.shape
    generalize L[k] = nd at *
    obtain ⟨kind, tok, kids⟩ := nd
    clear hcc hc hx hne hkv hn
    by_cases h2 : kind = 2
    · have KF2 : Hid (kidsF L (k : Int) = kids) := Lib.hid (by rw [KF.out]; exact if_pos h2)
      have d2 : (kind != 2) = false := by rw [h2]; rfl
      clear h2 KF
      go_enter Tryd.func29, Tryd.ntmps29
      go_wp2_with fail
      refine HA.out.mono ?_
      rintro e w1 ⟨rfl, rfl⟩
      go_wp2
      go_ret
      exact ⟨_, rfl, by rw [KF2.out]; exact HKV.out, rfl⟩
    · have KF2 : Hid (kidsF L (k : Int) = []) := Lib.hid (by rw [KF.out]; exact if_neg h2)
      have d2 : (kind != 2) = true := bne_iff_ne.2 h2
      clear h2 KF
      go_enter Tryd.func29, Tryd.ntmps29
      go_wp2_with fail
      refine HA.out.mono ?_
      rintro e w1 ⟨rfl, rfl⟩
      go_wp2
      go_ret
      exact ⟨_, rfl, by rw [KF2.out]; exact InL.nil _, rfl⟩
  · have KF2 : Hid (kidsF L n = []) := Lib.hid (by unfold kidsF; rw [ndAt_none hn])
    rw [has_no hn] at HA
    clear hn h
    go_enter Tryd.func29, Tryd.ntmps29
    go_wp2_with fail
    refine HA.out.mono ?_
    rintro e w1 ⟨rfl, rfl⟩
    go_wp2
    go_ret
    exact ⟨_, rfl, by rw [KF2.out]; exact InL.nil _, rfl⟩
end Go.Proofs.YtpkdiciinhjfjaaDoor

/- sexp: Head; the reference's Kids, Head, SameInts. -/
namespace Go.Proofs.YtpkdiciinhjfjaaDoor
open Go.RowKit Mth

theorem allocS (w : World) (o : Obj) : ∃ W, w.alloc o = W ∧ W.heap[w.heap.size]? = some o ∧ Below w.heap.size w W ∧ w.heap.size < W.heap.size := ⟨_, rfl, heap_alloc_new w o, (Below.refl _ _).alloc (Nat.le_refl _) o, by simp⟩
/-- the seven cells of a node in a list -/
theorem SxL.at {w : World} {ao : Option Addr} {n cap : Nat} {L : List Nd} (h : SxL w (.slice ao n cap) L) {k : Nat} (hk : k < L.length) : ∃ b off ka kc, ao = some ⟨b, off, none⟩ ∧ b < w.heap.size ∧
    w.cell? ⟨b, off + k * 7, none⟩ = some (.int .i64 L[k].kind) ∧ w.cell? ⟨b, off + k * 7 + 1, none⟩ = some (.int .i64 L[k].tok.k) ∧ w.cell? ⟨b, off + k * 7 + 2, none⟩ = some (.string L[k].tok.t) ∧ w.cell? ⟨b, off + k * 7 + 3, none⟩ = some (.bool L[k].tok.q) ∧
    w.cell? ⟨b, off + k * 7 + 4, none⟩ = some (.int .i64 L[k].tok.l) ∧ w.cell? ⟨b, off + k * 7 + 5, none⟩ = some (.int .i64 L[k].tok.c) ∧ w.cell? ⟨b, off + k * 7 + 6, none⟩ = some (.slice ka L[k].kids.length kc) ∧ InL w (.slice ka L[k].kids.length kc) L[k].kids := by
  obtain ⟨ao', cap', e, hc⟩ := h
  simp only [Value.slice.injEq] at e
  obtain ⟨rfl, _, _⟩ := e
  have hne : L ≠ [] := fun e => by rw [e] at hk; simp at hk
  obtain ⟨b, off, e, hlt, hcc⟩ := hc hne
  obtain ⟨c0, c1, kv, c6, hkv⟩ := hcc k _ (List.getElem?_eq_getElem hk)
  obtain ⟨ka, kc, e2⟩ := hkv.shape
  subst e2
  exact ⟨b, off, ka, kc, e, hlt, c0, c1 0 _ rfl, c1 1 _ rfl, c1 2 _ rfl, c1 3 _ rfl, c1 4 _ rfl, c6, hkv⟩
/-- the symbol with which a list begins -/
def headF (L : List Nd) (n : Int) : Option ByteArray := match kidsF L n with
  | [] => none
  | k :: _ => match ndAt L k with
    | some nd => if nd.kind = 1 ∧ nd.tok.k = 8 ∧ nd.tok.q = false then some nd.tok.t else none
    | none => none
def headV (o : Option ByteArray) : Value := .tuple #[.string (o.getD ⟨#[]⟩), .bool o.isSome]
theorem blk7 {w : World} {g : Nat} {a b c d e f k : Value} {T : TypeId} (h : w.heap[g]? = some (.cells #[a, b, c, d, e, f, k] T (0, 0))) :
    w.cell? ⟨g, 0, none⟩ = some a ∧ w.cell? ⟨g, 1, none⟩ = some b ∧ w.cell? ⟨g, 2, none⟩ = some c ∧ w.cell? ⟨g, 3, none⟩ = some d ∧ w.cell? ⟨g, 4, none⟩ = some e ∧ w.cell? ⟨g, 5, none⟩ = some f ∧ w.cell? ⟨g, 6, none⟩ = some k := by
  refine ⟨?_, ?_, ?_, ?_, ?_, ?_, ?_⟩ <;> (rw [cell_of_row w g _ _ _ (0, 0) h]; rfl)
end Go.Proofs.YtpkdiciinhjfjaaDoor

/- tribunalref07: Kids, Head, ints, SameInts. -/
namespace Go.Proofs.YtpkdiciinhjfjaaDoor
open Go.RowKit Mth

theorem dr_below (w : World) (m : Nat) : Below w.heap.size w (w.drewN m) := ⟨rfl, rfl, rfl, Nat.le_refl _, fun _ _ => rfl⟩
set_option maxHeartbeats 2000000 in
set_option maxRecDepth 100000 in
theorem rints_any (va vb : Value) (la lb : List Int) (w : World) (ha : InL w va la) (hb : InL w vb lb) (hlen : la.length ≤ 4611686018427387904) : Calls Tryd.prog 17 #[va, vb] w fun e w' => e = .returned (.bool (decide (la = lb))) ∧ ∃ m, w' = w.drewN m := by
  have HA := Lib.hid ha; have HB := Lib.hid hb
  obtain ⟨aa, ac, rfl⟩ := ha.shape
  obtain ⟨ba, bc, rfl⟩ := hb.shape
  clear ha hb
  by_cases hl : la.length = lb.length
  · have d1 : ((la.length : Int) != (lb.length : Int)) = false := by rw [hl]; simp
    go_enter Tryd.func17, Tryd.ntmps17
    go_wp2
    go_loopw [5] (fun i wr => ∃ k : Nat, k ≤ la.length ∧ i = .int .i64 (k : Int) ∧ (∃ m, wr = w.drewN m) ∧ ∀ j : Nat, j < k → la[j]? = lb[j]?) (fun i _ => la.length - (intOf i).toNat)
    case atStart => exact ⟨0, Nat.zero_le _, rfl, ⟨0, rfl⟩, fun j hj => by omega⟩
    case round =>
      obtain ⟨k, hk, rfl, ⟨m, rfl⟩, hsame⟩ := hrel
      have HBE := Lib.hid (dr_below w m); have HS := Lib.hid hsame
      clear hsame
      by_cases hlt : k < la.length
      · have hltb : k < lb.length := by omega
        obtain ⟨ao1, cap1, e1, hc1⟩ := HA.out
        obtain ⟨ao2, cap2, e2, hc2⟩ := HB.out
        obtain ⟨b1, o1, x1, -, hcc1⟩ := hc1 (fun e => by rw [e] at hlt; simp at hlt)
        obtain ⟨b2, o2, x2, -, hcc2⟩ := hc2 (fun e => by rw [e] at hltb; simp at hltb)
        have c1 := hcc1 k _ (List.getElem?_eq_getElem hlt)
        have c2 := hcc2 k _ (List.getElem?_eq_getElem hltb)
        simp only [Value.slice.injEq] at e1 e2
        obtain ⟨rfl, -, -⟩ := e1
        obtain ⟨rfl, -, -⟩ := e2
        subst x1 x2
        have HX : Hid (la[k]? = some la[k] ∧ lb[k]? = some lb[k]) := Lib.hid ⟨List.getElem?_eq_getElem hlt, List.getElem?_eq_getElem hltb⟩
        generalize la[k] = x at *
        generalize lb[k] = y at *
        clear hcc1 hcc2 hc1 hc2
        by_cases hxy : x = y
        · have HS2 : Hid (∀ j : Nat, j < k + 1 → la[j]? = lb[j]?) := Lib.hid (fun j hj => by
            rcases Nat.lt_or_ge j k with h | h
            · exact HS.out j h
            · rw [show j = k by omega, HX.out.1, HX.out.2, hxy])
          have d2 : (x != y) = false := by rw [hxy]; simp
          clear hxy
          go_wp2
          go_region
          go_wp2
          go_roundw
          case rel => exact ⟨k + 1, by omega, by go_num, ⟨m + 1, rfl⟩, HS2.out⟩
          case measure => simp [intOf]; omega
        · have HN : Hid (decide (la = lb) = false) := Lib.hid (decide_eq_false (fun e => by
            have := HX.out.1
            rw [e, HX.out.2] at this
            exact hxy (Option.some.inj this).symm))
          have d2 : (x != y) = true := bne_iff_ne.2 hxy
          clear hxy
          go_wp2
          go_region
          go_wp2
          go_ret
          exact ⟨by rw [HN.out]; rfl, m + 1, rfl⟩
      · obtain rfl : k = la.length := by omega
        have HN : Hid (decide (la = lb) = true) := Lib.hid (decide_eq_true (List.ext_getElem? (fun j => by
          rcases Nat.lt_or_ge j la.length with h | h
          · exact HS.out j h
          · rw [List.getElem?_eq_none h, List.getElem?_eq_none (by omega)])))
        go_wp2
        go_ret
        exact ⟨by rw [HN.out]; rfl, m, rfl⟩
  · have d1 : ((la.length : Int) != (lb.length : Int)) = true := bne_iff_ne.2 (by omega)
    have HN : Hid (decide (la = lb) = false) := Lib.hid (decide_eq_false (fun e => hl (by rw [e])))
    go_enter Tryd.func17, Tryd.ntmps17
    go_wp2
    go_ret
    exact ⟨by rw [HN.out]; rfl, 0, rfl⟩
set_option maxRecDepth 100000 in
theorem sameInts_any (va vb : Value) (la lb : List Int) (w : World) (ha : InL w va la) (hb : InL w vb lb) (hlen : la.length ≤ 4611686018427387904) : Calls Tryd.prog 8 #[va, vb] w fun e w' => e = .returned (.bool (decide (la = lb))) ∧ ∃ m, w' = w.drewN m := by
  have C := Lib.hid (rints_any va vb la lb w ha hb hlen)
  clear ha hb
  go_enter Tryd.func8, Tryd.ntmps8
  go_wp2_with fail
  refine C.out.mono ?_
  rintro e w1 ⟨rfl, m, rfl⟩
  go_wp2
  go_ret
  exact ⟨rfl, m, rfl⟩
end Go.Proofs.YtpkdiciinhjfjaaDoor

/- tribunalref07: Same. -/
namespace Go.Proofs.YtpkdiciinhjfjaaDoor
open Go.RowKit Mth

def SameNd (x y : Nd) : Prop := x.kind = y.kind ∧ x.tok = y.tok ∧ x.kids = y.kids
set_option maxHeartbeats 4000000 in
set_option maxRecDepth 100000 in
theorem same7_any (A : List Nd) (va vb : Value) (w : World) (hA : SxL w va A) (hB : SxL w vb A) (hlen : A.length ≤ 4611686018427387904) (hk : ∀ nd ∈ A, nd.kids.length ≤ 4611686018427387904) :
    Calls Tryd.prog 10 #[va, vb] w fun e w' => e = .returned (.bool true) ∧ ∃ n, w' = w.drewN n := by
  have HA := Lib.hid hA; have HB := Lib.hid hB; have HK := Lib.hid hk
  obtain ⟨aoA, capA, rfl⟩ := hA.shape
  obtain ⟨aoB, capB, rfl⟩ := hB.shape
  clear hA hB hk
  go_enter Tryd.func10, Tryd.ntmps10
  go_wp2
  go_loopw [5] (fun i wr => ∃ k m : Nat, k ≤ A.length ∧ i = .int .i64 (k : Int) ∧ wr = w.drewN m) (fun i _ => A.length - (intOf i).toNat)
  case atStart => exact ⟨0, 0, Nat.zero_le _, rfl, rfl⟩
  case round =>
    obtain ⟨k, m, hk, rfl, rfl⟩ := hrel
    by_cases hlt : k < A.length
    · obtain ⟨b1, o1, n1, c1, rfl, -, a0, a1, a2, a3, a4, a5, a6, i1⟩ := HA.out.at hlt
      obtain ⟨b2, o2, n2, c2, rfl, -, e0, e1, e2, e3, e4, e5, e6, i2⟩ := HB.out.at hlt
      have CI : Hid (∀ q, Calls Tryd.prog 17 #[.slice n1 A[k].kids.length c1, .slice n2 A[k].kids.length c2] (w.drewN (m + q)) fun e w' => e = .returned (.bool true) ∧ ∃ q', w' = w.drewN (m + q')) := Lib.hid (fun q => by
        have := rints_any _ _ _ _ (w.drewN (m + q)) (i1.below (dr_below w _)) (i2.below (dr_below w _)) (HK.out _ (List.getElem_mem hlt))
        rw [decide_eq_true rfl] at this
        exact this.mono fun e w' ⟨h1, q', h2⟩ => ⟨h1, q + q', by rw [h2, World.drewN_drewN, Nat.add_assoc]⟩)
      generalize A[k] = nd at *
      obtain ⟨kind, ⟨tk, tt, tq, tl, tc⟩, kids⟩ := nd
      clear i1 i2
      go_wp2
      go_quiet (first | (go_at_call 17; exact CI.out _))
      go_wp2
      go_roundw
      case rel => exact ⟨k + 1, _, by omega, by go_num, rfl⟩
      case measure => simp [intOf]; omega
    · obtain rfl : k = A.length := by omega
      go_wp2
      go_ret
      exact ⟨rfl, m, rfl⟩
end Go.Proofs.YtpkdiciinhjfjaaDoor

/- sexp: the rules of depths and sizes; begin (written by genpxf.py). -/
namespace Go.Proofs.YtpkdiciinhjfjaaDoor
open Go.RowKit Mth

theorem belowT {w W w1 : World} (h : Below w.heap.size w W) (hb : Below W.heap.size W w1) : Below w.heap.size w w1 := h.trans (hb.mono h.size)
theorem cellT {W w1 : World} {b o : Nat} {v : Value} (hb : Below W.heap.size W w1) (hc : W.cell? ⟨b, o, none⟩ = some v) (hlt : b < W.heap.size) : w1.cell? ⟨b, o, none⟩ = some v := (hb.cell (p := ⟨b, o, none⟩) hlt).trans hc
theorem blkT {w w' : World} {g : Nat} {x : Obj} (hb : Below w.heap.size w w') (h : w.heap[g]? = some x) : w'.heap[g]? = some x := (hb.block g (Array.getElem?_eq_some_iff.1 h).1).trans h
def ruleD : Value := .agg #[.func (.func 50) #[] #[], .func (.func 51) #[] #[], .func (.func 52) #[] #[]]
def ruleS : Value := .agg #[.func (.func 30) #[] #[], .func (.func 31) #[] #[], .func (.func 32) #[] #[]]
/-- a list's size ahead of its kids -/
def szList (n : Nat) : Int := 2 + max 0 ((n : Int) - 1)
set_option maxRecDepth 100000 in
theorem dAtom_any (t : ByteArray) (w : World) : Calls Tryd.prog 50 #[.string t] w fun e w' => e = .returned (.int .i64 0) ∧ w' = w := by
  go_enter Tryd.func50, Tryd.ntmps50
  go_wp2
  go_ret
  exact ⟨rfl, rfl⟩
set_option maxRecDepth 100000 in
theorem dList_any (n : Int) (w : World) : Calls Tryd.prog 51 #[.int .i64 n] w fun e w' => e = .returned (.int .i64 1) ∧ w' = w := by
  go_enter Tryd.func51, Tryd.ntmps51
  go_wp2
  go_ret
  exact ⟨rfl, rfl⟩
set_option maxRecDepth 100000 in
theorem dMore_any (a b : Int) (w : World) (hb : -1048576 ≤ b ∧ b ≤ 1048576) : Calls Tryd.prog 52 #[.int .i64 a, .int .i64 b] w fun e w' => e = .returned (.int .i64 (max a (b + 1))) ∧ w' = w := by
  have e1 : wrap64 (b + 1) = b + 1 := IntWalk.wrap64_in _ (by omega)
  go_enter Tryd.func52, Tryd.ntmps52
  go_wp2
  go_ret
  exact ⟨rfl, rfl⟩
set_option maxRecDepth 100000 in
theorem sAtom_any (t : ByteArray) (w : World) : Calls Tryd.prog 30 #[.string t] w fun e w' => e = .returned (.int .i64 (t.size : Int)) ∧ w' = w := by
  go_enter Tryd.func30, Tryd.ntmps30
  go_wp2
  go_ret
  exact ⟨rfl, rfl⟩
set_option maxRecDepth 100000 in
theorem sList_any (n : Nat) (w : World) (hn : n ≤ 4611686018427387904) : Calls Tryd.prog 31 #[.int .i64 (n : Int)] w fun e w' => e = .returned (.int .i64 (szList n)) ∧ w' = w := by
  have e1 : wrap64 ((n : Int) - 1) = (n : Int) - 1 := IntWalk.wrap64_in _ (by omega)
  have e2 : wrap64 (2 + max 0 ((n : Int) - 1)) = szList n := IntWalk.wrap64_in _ (by omega)
  go_enter Tryd.func31, Tryd.ntmps31
  go_wp2
  go_ret
  exact ⟨rfl, rfl⟩
set_option maxRecDepth 100000 in
theorem sMore_any (a b : Int) (w : World) (hb : -4611686018427387904 ≤ a + b ∧ a + b ≤ 4611686018427387904) : Calls Tryd.prog 32 #[.int .i64 a, .int .i64 b] w fun e w' => e = .returned (.int .i64 (min (a + b) 1048577)) ∧ w' = w := by
  have e1 : wrap64 (a + b) = a + b := IntWalk.wrap64_in _ (by omega)
  go_enter Tryd.func32, Tryd.ntmps32
  go_wp2
  go_ret
  exact ⟨rfl, rfl⟩
/-- is node k, nd, sound? -/
def SndN (nd : Nd) (k : Nat) : Prop := (nd.kind = 1 ∧ Good nd.tok ∧ nd.tok.k ≠ 1 ∧ nd.tok.k ≠ 2) ∨ (nd.kind = 2 ∧ ∀ x ∈ nd.kids, 0 ≤ x ∧ x < (k : Int))
/-- what begin answers: b is the number of a sound node -/
def BegO (nd : Nd) (k : Nat) (b : Int) (e : Ending) : Prop := (SndN nd k ∧ e = .returned (.tuple #[.int .i64 b, .bool true])) ∨ (¬ SndN nd k ∧ e = .returned (.tuple #[.int .i64 0, .bool false]))
def baseD (nd : Nd) : Int := if nd.kind = 1 then 0 else 1
def baseS (nd : Nd) : Int := if nd.kind = 1 then ((wrB nd.tok).size : Int) else szList nd.kids.length
theorem blk3s {w : World} {g : Nat} {a b c : Value} {T : TypeId} (h : w.heap[g]? = some (.cells #[a, b, c] T (0, 0))) :
    (w.cell? ⟨g, 0, none⟩ = some a ∧ w.cell? ⟨g, 1, none⟩ = some b ∧ w.cell? ⟨g, 2, none⟩ = some c) ∧ True ∧ g < w.heap.size := by
  refine ⟨⟨?_, ?_, ?_⟩, trivial, (Array.getElem?_eq_some_iff.1 h).1⟩ <;> (rw [cell_of_row w g _ _ _ (0, 0) h]; rfl)
set_option maxHeartbeats 8000000 in
set_option maxRecDepth 100000 in
theorem beginD_any (v : Value) (L : List Nd) (k : Nat) (w : World) (h : SxL w v L) (hk : k < L.length) (hL : LexW w) (ht : L[k].tok.t.size ≤ 1048576) (hkl : L[k].kids.length ≤ 1048576) :
    Calls Tryd.prog 27 #[ruleD, v, .int .i64 (k : Int)] w fun e w' => BegO L[k] k (baseD L[k]) e ∧ Below w.heap.size w w' := by
  have HKL : Hid (L[k].kids.length ≤ 4611686018427387904) := Lib.hid (by omega)
  have HT := Lib.hid ht; have HLW := Lib.hid hL
  obtain ⟨ao, cap, rfl⟩ := h.shape
  obtain ⟨b, off, na, nc, rfl, hbl, c0, c1, c2, c3, c4, c5, c6, hkv⟩ := h.at hk
  have HKV := Lib.hid hkv
  obtain ⟨W1, eW1, g1, bW1, -⟩ := allocS w (Obj.cells #[.func (.func 50) #[] #[], .func (.func 51) #[] #[], .func (.func 52) #[] #[]] 52)
  generalize L[k] = nd at *
  obtain ⟨kind, tok, kids⟩ := nd
  have HKV' : Hid (InL w (.slice na kids.length nc) kids) := Lib.hid HKV.out
  obtain ⟨W, eW, g2, bW, -⟩ := allocS W1 (Obj.cells #[.int .i64 kind, .int .i64 tok.k, .string tok.t, .bool tok.q, .int .i64 tok.l, .int .i64 tok.c, .slice na kids.length nc] 36)
  have BW := Lib.hid (belowT bW1 bW)
  have GR := Lib.hid (blkT bW g1)
  have GN : Hid (W.heap[W1.heap.size]? = _) := Lib.hid g2
  have e1 := cellT bW1 c0 hbl; have e2 := cellT bW1 c1 hbl; have e3 := cellT bW1 c2 hbl; have e4 := cellT bW1 c3 hbl; have e5 := cellT bW1 c4 hbl; have e6 := cellT bW1 c5 hbl; have e7 := cellT bW1 c6 hbl
  have hsz1 : W1.heap.size = w.heap.size + 1 := by rw [← eW1]; simp
  have WR : Hid (Calls Tryd.prog 33 #[.agg #[.int .i64 tok.k, .string tok.t, .bool tok.q, .int .i64 tok.l, .int .i64 tok.c]] W fun e w' => WriteO W w' tok e) := Lib.hid (write_any tok HT.out W (HLW.out.below BW.out))
  obtain ⟨p0, p1, p2, p3, p4, p5, p6⟩ := blk7 GN.out
  rw [hsz1] at p0 p1 p2 p3 p4 p5 p6
  clear h hL ht hkl hkv HKV g1 g2 bW1 bW
  unfold ruleD
  by_cases k1 : kind = 1
  · have K1 := Lib.hid k1
    subst k1
    go_enter Tryd.func27, Tryd.ntmps27
    go_wp2_with fail
    try rw [eW1]
    try rw [eW]
    refine WR.out.mono ?_
    rintro e w1 ⟨b1, hw⟩
    have B1 := Lib.hid (belowT BW.out b1)
    have GN1 := Lib.hid (blkT b1 GN.out); have GR1 := Lib.hid (blkT b1 GR.out)
    clear WR b1 p0 p1 p2 p3 p4 p5 p6 e1 e2 e3 e4 e5 e6 e7
    obtain ⟨p0, p1, p2, p3, p4, p5, p6⟩ := blk7 GN1.out
    rw [hsz1] at p0 p1 p2 p3 p4 p5 p6
    rcases hw with ⟨hg, rfl⟩ | ⟨hg, rfl⟩
    · have HG := Lib.hid hg
      clear hg
      by_cases t1 : tok.k = 1
      · have HS : Hid (¬ SndN ⟨1, tok, kids⟩ k) := Lib.hid (by rintro (⟨_, _, h, _⟩ | ⟨h, _⟩); exact h t1; cases h)
        have d1 : (tok.k == 1) = true := by rw [t1]; rfl
        clear t1
        go_wp2
        go_ret2
        exact ⟨.inr ⟨HS.out, rfl⟩, B1.out⟩
      · have d1 : (tok.k == 1) = false := beq_eq_false_iff_ne.2 t1
        by_cases t2 : tok.k = 2
        · have HS : Hid (¬ SndN ⟨1, tok, kids⟩ k) := Lib.hid (by rintro (⟨_, _, _, h⟩ | ⟨h, _⟩); exact h t2; cases h)
          have d2 : (tok.k == 2) = true := by rw [t2]; rfl
          clear t1 t2
          go_wp2
          go_ret2
          exact ⟨.inr ⟨HS.out, rfl⟩, B1.out⟩
        · have HS : Hid (SndN ⟨1, tok, kids⟩ k) := Lib.hid (.inl ⟨rfl, HG.out, t1, t2⟩)
          have d2 : (tok.k == 2) = false := beq_eq_false_iff_ne.2 t2
          have CA := Lib.hid (dAtom_any (wrB tok) w1)
          obtain ⟨⟨q0, q1, q2⟩, _, _⟩ := blk3s GR1.out
          clear t1 t2
          go_wp2_with fail
          refine CA.out.mono ?_
          rintro e w2 ⟨rfl, rfl⟩
          go_wp2
          go_ret2
          exact ⟨.inl ⟨HS.out, rfl⟩, B1.out⟩
    · have HS : Hid (¬ SndN ⟨1, tok, kids⟩ k) := Lib.hid (by rintro (⟨_, h, _⟩ | ⟨h, _⟩); exact hg h; cases h)
      clear hg
      go_wp2
      go_ret2
      exact ⟨.inr ⟨HS.out, rfl⟩, B1.out⟩
  · have d1 : (kind == 1) = false := beq_eq_false_iff_ne.2 k1
    clear WR
    by_cases k2 : kind = 2
    · have K2 := Lib.hid k2
      subst k2
      have KV := Lib.hid (HKV'.out.below BW.out)
      have hlk : kids.length ≤ 4611686018427387904 := HKL.out
      clear k1
      go_enter Tryd.func27, Tryd.ntmps27
      go_wp2
      clear e1 e2 e3 e4 e5 e6 e7 c0 c1 c2 c3 c4 c5 c6
      try rw [eW1]
      try rw [eW]
      go_loopw [12, 50] (fun _ i wr => ∃ j : Nat, j ≤ kids.length ∧ i = .int .i64 (j : Int) ∧ wr = W ∧ ∀ (m : Nat) x, m < j → kids[m]? = some x → 0 ≤ x ∧ x < (k : Int)) (fun _ i _ => kids.length - (intOf i).toNat)
      case atStart => exact ⟨0, Nat.zero_le _, rfl, rfl, fun m x hm => by omega⟩
      case round =>
        obtain ⟨j, hj, rfl, rfl, hok⟩ := hrel
        have HO := Lib.hid hok
        clear hok
        by_cases hlt : j < kids.length
        · have hx : kids[j]? = some kids[j] := List.getElem?_eq_getElem hlt
          obtain ⟨ao1, cap1, ee, hc1⟩ := KV.out
          obtain ⟨b1, o1, x1, -, hcc1⟩ := hc1 (fun e => by rw [e] at hlt; simp at hlt)
          have c1' := hcc1 j _ hx
          simp only [Value.slice.injEq] at ee
          obtain ⟨rfl, -, -⟩ := ee
          subst x1
          have HX := Lib.hid hx
          generalize kids[j] = x at *
          clear hcc1 hc1 hx
          by_cases x0 : x < 0
          · have HS : Hid (¬ SndN ⟨2, tok, kids⟩ k) := Lib.hid (by rintro (⟨h, _⟩ | ⟨_, h⟩); cases h; have := (h x (List.mem_of_getElem? HX.out)).1; omega)
            have d2 : decide (x < 0) = true := decide_eq_true x0
            clear x0
            go_wp2
            go_ret2
            exact ⟨.inr ⟨HS.out, rfl⟩, BW.out⟩
          · have d2 : decide (x < 0) = false := decide_eq_false x0
            by_cases x3 : (k : Int) ≤ x
            · have HS : Hid (¬ SndN ⟨2, tok, kids⟩ k) := Lib.hid (by rintro (⟨h, _⟩ | ⟨_, h⟩); cases h; have := (h x (List.mem_of_getElem? HX.out)).2; omega)
              have d3 : decide ((k : Int) ≤ x) = true := decide_eq_true x3
              clear x0 x3
              go_wp2
              go_ret2
              exact ⟨.inr ⟨HS.out, rfl⟩, BW.out⟩
            · have d3 : decide ((k : Int) ≤ x) = false := decide_eq_false x3
              have HO2 : Hid (∀ (m : Nat) y, m < j + 1 → kids[m]? = some y → 0 ≤ y ∧ y < (k : Int)) := Lib.hid (fun m y hm hy => by
                rcases Nat.lt_or_ge m j with h | h
                · exact HO.out m y h hy
                · rw [show m = j by omega] at hy
                  obtain rfl := Option.some.inj (HX.out.symm.trans hy)
                  omega)
              clear x0 x3
              go_wp2
              go_roundw
              case rel => exact ⟨j + 1, by omega, by go_num, trivial, HO2.out⟩
              case measure => simp [intOf]; omega
        · obtain rfl : j = kids.length := by omega
          have HS : Hid (SndN ⟨2, tok, kids⟩ k) := Lib.hid (.inr ⟨rfl, fun x hx => by
            obtain ⟨m, hm, e⟩ := List.mem_iff_getElem.1 hx
            exact HO.out m x hm (by rw [List.getElem?_eq_getElem hm, e])⟩)
          have CL := Lib.hid (dList_any (kids.length : Int) wr)
          obtain ⟨⟨q0, q1, q2⟩, _, _⟩ := blk3s GR.out
          go_wp2_with fail
          refine CL.out.mono ?_
          rintro e w2 ⟨rfl, rfl⟩
          go_wp2
          go_ret2
          exact ⟨.inl ⟨HS.out, rfl⟩, BW.out⟩
    · have d2 : (kind == 2) = false := beq_eq_false_iff_ne.2 k2
      have HS : Hid (¬ SndN ⟨kind, tok, kids⟩ k) := Lib.hid (by rintro (⟨h, _⟩ | ⟨h, _⟩); exact k1 h; exact k2 h)
      clear k1 k2
      go_enter Tryd.func27, Tryd.ntmps27
      go_wp2
      try rw [eW1]
      try rw [eW]
      go_ret2
      exact ⟨.inr ⟨HS.out, rfl⟩, BW.out⟩
set_option maxHeartbeats 8000000 in
set_option maxRecDepth 100000 in
theorem beginS_any (v : Value) (L : List Nd) (k : Nat) (w : World) (h : SxL w v L) (hk : k < L.length) (hL : LexW w) (ht : L[k].tok.t.size ≤ 1048576) (hkl : L[k].kids.length ≤ 1048576) :
    Calls Tryd.prog 27 #[ruleS, v, .int .i64 (k : Int)] w fun e w' => BegO L[k] k (baseS L[k]) e ∧ Below w.heap.size w w' := by
  have HKL : Hid (L[k].kids.length ≤ 4611686018427387904) := Lib.hid (by omega)
  have HT := Lib.hid ht; have HLW := Lib.hid hL
  obtain ⟨ao, cap, rfl⟩ := h.shape
  obtain ⟨b, off, na, nc, rfl, hbl, c0, c1, c2, c3, c4, c5, c6, hkv⟩ := h.at hk
  have HKV := Lib.hid hkv
  obtain ⟨W1, eW1, g1, bW1, -⟩ := allocS w (Obj.cells #[.func (.func 30) #[] #[], .func (.func 31) #[] #[], .func (.func 32) #[] #[]] 52)
  generalize L[k] = nd at *
  obtain ⟨kind, tok, kids⟩ := nd
  have HKV' : Hid (InL w (.slice na kids.length nc) kids) := Lib.hid HKV.out
  obtain ⟨W, eW, g2, bW, -⟩ := allocS W1 (Obj.cells #[.int .i64 kind, .int .i64 tok.k, .string tok.t, .bool tok.q, .int .i64 tok.l, .int .i64 tok.c, .slice na kids.length nc] 36)
  have BW := Lib.hid (belowT bW1 bW)
  have GR := Lib.hid (blkT bW g1)
  have GN : Hid (W.heap[W1.heap.size]? = _) := Lib.hid g2
  have e1 := cellT bW1 c0 hbl; have e2 := cellT bW1 c1 hbl; have e3 := cellT bW1 c2 hbl; have e4 := cellT bW1 c3 hbl; have e5 := cellT bW1 c4 hbl; have e6 := cellT bW1 c5 hbl; have e7 := cellT bW1 c6 hbl
  have hsz1 : W1.heap.size = w.heap.size + 1 := by rw [← eW1]; simp
  have WR : Hid (Calls Tryd.prog 33 #[.agg #[.int .i64 tok.k, .string tok.t, .bool tok.q, .int .i64 tok.l, .int .i64 tok.c]] W fun e w' => WriteO W w' tok e) := Lib.hid (write_any tok HT.out W (HLW.out.below BW.out))
  obtain ⟨p0, p1, p2, p3, p4, p5, p6⟩ := blk7 GN.out
  rw [hsz1] at p0 p1 p2 p3 p4 p5 p6
  clear h hL ht hkl hkv HKV g1 g2 bW1 bW
  unfold ruleS
  by_cases k1 : kind = 1
  · have K1 := Lib.hid k1
    subst k1
    go_enter Tryd.func27, Tryd.ntmps27
    go_wp2_with fail
    try rw [eW1]
    try rw [eW]
    refine WR.out.mono ?_
    rintro e w1 ⟨b1, hw⟩
    have B1 := Lib.hid (belowT BW.out b1)
    have GN1 := Lib.hid (blkT b1 GN.out); have GR1 := Lib.hid (blkT b1 GR.out)
    clear WR b1 p0 p1 p2 p3 p4 p5 p6 e1 e2 e3 e4 e5 e6 e7
    obtain ⟨p0, p1, p2, p3, p4, p5, p6⟩ := blk7 GN1.out
    rw [hsz1] at p0 p1 p2 p3 p4 p5 p6
    rcases hw with ⟨hg, rfl⟩ | ⟨hg, rfl⟩
    · have HG := Lib.hid hg
      clear hg
      by_cases t1 : tok.k = 1
      · have HS : Hid (¬ SndN ⟨1, tok, kids⟩ k) := Lib.hid (by rintro (⟨_, _, h, _⟩ | ⟨h, _⟩); exact h t1; cases h)
        have d1 : (tok.k == 1) = true := by rw [t1]; rfl
        clear t1
        go_wp2
        go_ret2
        exact ⟨.inr ⟨HS.out, rfl⟩, B1.out⟩
      · have d1 : (tok.k == 1) = false := beq_eq_false_iff_ne.2 t1
        by_cases t2 : tok.k = 2
        · have HS : Hid (¬ SndN ⟨1, tok, kids⟩ k) := Lib.hid (by rintro (⟨_, _, _, h⟩ | ⟨h, _⟩); exact h t2; cases h)
          have d2 : (tok.k == 2) = true := by rw [t2]; rfl
          clear t1 t2
          go_wp2
          go_ret2
          exact ⟨.inr ⟨HS.out, rfl⟩, B1.out⟩
        · have HS : Hid (SndN ⟨1, tok, kids⟩ k) := Lib.hid (.inl ⟨rfl, HG.out, t1, t2⟩)
          have d2 : (tok.k == 2) = false := beq_eq_false_iff_ne.2 t2
          have CA := Lib.hid (sAtom_any (wrB tok) w1)
          obtain ⟨⟨q0, q1, q2⟩, _, _⟩ := blk3s GR1.out
          clear t1 t2
          go_wp2_with fail
          refine CA.out.mono ?_
          rintro e w2 ⟨rfl, rfl⟩
          go_wp2
          go_ret2
          exact ⟨.inl ⟨HS.out, rfl⟩, B1.out⟩
    · have HS : Hid (¬ SndN ⟨1, tok, kids⟩ k) := Lib.hid (by rintro (⟨_, h, _⟩ | ⟨h, _⟩); exact hg h; cases h)
      clear hg
      go_wp2
      go_ret2
      exact ⟨.inr ⟨HS.out, rfl⟩, B1.out⟩
  · have d1 : (kind == 1) = false := beq_eq_false_iff_ne.2 k1
    clear WR
    by_cases k2 : kind = 2
    · have K2 := Lib.hid k2
      subst k2
      have KV := Lib.hid (HKV'.out.below BW.out)
      have hlk : kids.length ≤ 4611686018427387904 := HKL.out
      clear k1
      go_enter Tryd.func27, Tryd.ntmps27
      go_wp2
      clear e1 e2 e3 e4 e5 e6 e7 c0 c1 c2 c3 c4 c5 c6
      try rw [eW1]
      try rw [eW]
      go_loopw [12, 50] (fun _ i wr => ∃ j : Nat, j ≤ kids.length ∧ i = .int .i64 (j : Int) ∧ wr = W ∧ ∀ (m : Nat) x, m < j → kids[m]? = some x → 0 ≤ x ∧ x < (k : Int)) (fun _ i _ => kids.length - (intOf i).toNat)
      case atStart => exact ⟨0, Nat.zero_le _, rfl, rfl, fun m x hm => by omega⟩
      case round =>
        obtain ⟨j, hj, rfl, rfl, hok⟩ := hrel
        have HO := Lib.hid hok
        clear hok
        by_cases hlt : j < kids.length
        · have hx : kids[j]? = some kids[j] := List.getElem?_eq_getElem hlt
          obtain ⟨ao1, cap1, ee, hc1⟩ := KV.out
          obtain ⟨b1, o1, x1, -, hcc1⟩ := hc1 (fun e => by rw [e] at hlt; simp at hlt)
          have c1' := hcc1 j _ hx
          simp only [Value.slice.injEq] at ee
          obtain ⟨rfl, -, -⟩ := ee
          subst x1
          have HX := Lib.hid hx
          generalize kids[j] = x at *
          clear hcc1 hc1 hx
          by_cases x0 : x < 0
          · have HS : Hid (¬ SndN ⟨2, tok, kids⟩ k) := Lib.hid (by rintro (⟨h, _⟩ | ⟨_, h⟩); cases h; have := (h x (List.mem_of_getElem? HX.out)).1; omega)
            have d2 : decide (x < 0) = true := decide_eq_true x0
            clear x0
            go_wp2
            go_ret2
            exact ⟨.inr ⟨HS.out, rfl⟩, BW.out⟩
          · have d2 : decide (x < 0) = false := decide_eq_false x0
            by_cases x3 : (k : Int) ≤ x
            · have HS : Hid (¬ SndN ⟨2, tok, kids⟩ k) := Lib.hid (by rintro (⟨h, _⟩ | ⟨_, h⟩); cases h; have := (h x (List.mem_of_getElem? HX.out)).2; omega)
              have d3 : decide ((k : Int) ≤ x) = true := decide_eq_true x3
              clear x0 x3
              go_wp2
              go_ret2
              exact ⟨.inr ⟨HS.out, rfl⟩, BW.out⟩
            · have d3 : decide ((k : Int) ≤ x) = false := decide_eq_false x3
              have HO2 : Hid (∀ (m : Nat) y, m < j + 1 → kids[m]? = some y → 0 ≤ y ∧ y < (k : Int)) := Lib.hid (fun m y hm hy => by
                rcases Nat.lt_or_ge m j with h | h
                · exact HO.out m y h hy
                · rw [show m = j by omega] at hy
                  obtain rfl := Option.some.inj (HX.out.symm.trans hy)
                  omega)
              clear x0 x3
              go_wp2
              go_roundw
              case rel => exact ⟨j + 1, by omega, by go_num, trivial, HO2.out⟩
              case measure => simp [intOf]; omega
        · obtain rfl : j = kids.length := by omega
          have HS : Hid (SndN ⟨2, tok, kids⟩ k) := Lib.hid (.inr ⟨rfl, fun x hx => by
            obtain ⟨m, hm, e⟩ := List.mem_iff_getElem.1 hx
            exact HO.out m x hm (by rw [List.getElem?_eq_getElem hm, e])⟩)
          have CL := Lib.hid (sList_any kids.length wr HKL.out)
          obtain ⟨⟨q0, q1, q2⟩, _, _⟩ := blk3s GR.out
          go_wp2_with fail
          refine CL.out.mono ?_
          rintro e w2 ⟨rfl, rfl⟩
          go_wp2
          go_ret2
          exact ⟨.inl ⟨HS.out, rfl⟩, BW.out⟩
    · have d2 : (kind == 2) = false := beq_eq_false_iff_ne.2 k2
      have HS : Hid (¬ SndN ⟨kind, tok, kids⟩ k) := Lib.hid (by rintro (⟨h, _⟩ | ⟨h, _⟩); exact k1 h; exact k2 h)
      clear k1 k2
      go_enter Tryd.func27, Tryd.ntmps27
      go_wp2
      try rw [eW1]
      try rw [eW]
      go_ret2
      exact ⟨.inr ⟨HS.out, rfl⟩, BW.out⟩
end Go.Proofs.YtpkdiciinhjfjaaDoor

/- sexp: walk's step into a node (walk$1): the explicit stack behind a captured variable. -/
namespace Go.Proofs.YtpkdiciinhjfjaaDoor
open Go.RowKit Mth

/-- the blocks of which X speaks stay as they are -/
structure Keeps (w w' : World) (X : Nat → Prop) : Prop where
  size : w.heap.size ≤ w'.heap.size
  block : ∀ b, b < w.heap.size → X b → w'.heap[b]? = w.heap[b]?
  same : w'.os = w.os ∧ w'.tape = w.tape ∧ w'.output = w.output
theorem Keeps.refl (w : World) (X : Nat → Prop) : Keeps w w X := ⟨Nat.le_refl _, fun _ _ _ => rfl, rfl, rfl, rfl⟩
theorem Keeps.on {w w1 w2 : World} {X Y : Nat → Prop} (h : Keeps w w1 X) (h' : Keeps w1 w2 Y) (hxy : ∀ b, b < w.heap.size → X b → Y b) : Keeps w w2 X := ⟨Nat.le_trans h.1 h'.1, fun b hb hx => (h'.2 b (Nat.lt_of_lt_of_le hb h.1) (hxy b hb hx)).trans (h.2 b hb hx), h'.3.1.trans h.3.1, h'.3.2.1.trans h.3.2.1, h'.3.2.2.trans h.3.2.2⟩
theorem Keeps.trans {w w1 w2 : World} {X : Nat → Prop} (h : Keeps w w1 X) (h' : Keeps w1 w2 X) : Keeps w w2 X := h.on h' (fun _ _ h => h)
theorem Keeps.weak {w w' : World} {X Y : Nat → Prop} (h : Keeps w w' X) (hxy : ∀ b, b < w.heap.size → Y b → X b) : Keeps w w' Y := ⟨h.1, fun b hb hy => h.2 b hb (hxy b hb hy), h.3⟩
theorem Keeps.of_grown {w w' : World} {row : Option Nat} (h : w.grownBy w' row) : Keeps w w' (fun b => row ≠ some b) := ⟨h.size, fun b hb hx => h.block b hb (fun e => hx e.symm), h.os, h.tape, h.output⟩
theorem Keeps.of_below {w w' : World} (h : Below w.heap.size w w') : Keeps w w' (fun _ => True) := ⟨h.size, fun b hb _ => h.block b hb, h.os, h.tape, h.output⟩
theorem Keeps.below {w w' : World} {X : Nat → Prop} {B : Nat} (h : Keeps w w' X) (hB : B ≤ w.heap.size) (hx : ∀ b, b < B → X b) : Below B w w' := ⟨h.3.1, h.3.2.1, h.3.2.2, h.1, fun b hb => h.2 b (Nat.lt_of_lt_of_le hb hB) (hx b hb)⟩
theorem Keeps.alloc (w : World) (o : Obj) : Keeps w (w.alloc o) (fun _ => True) := Keeps.of_below ((Below.refl _ _).alloc (Nat.le_refl _) o)
theorem Keeps.at {w w' : World} {X : Nat → Prop} (h : Keeps w w' X) {b : Nat} {x : Obj} (hx : X b) (hb : w.heap[b]? = some x) : w'.heap[b]? = some x := (h.2 b (Array.getElem?_eq_some_iff.1 hb).1 hx).trans hb
theorem Keeps.set {w : World} {g i : Nat} {x : Value} : Keeps w (w.setCell ⟨g, i, none⟩ x) (fun b => b ≠ g) := ⟨by simp, fun b _ hne => by simp [World.setCell, Array.getElem?_modify, Ne.symm hne], rfl, rfl, rfl⟩
/-- an owned row hangs on its block alone -/
theorem own_keeps {w w' : World} {X : Nat → Prop} {base size n : Nat} {e : TypeId} {v : Value} {xs : List Value} (h : w.ownsRow base e size v n xs) (hk : Keeps w w' X) (hx : ∀ g, v.ownBlock = some g → X g) : w'.ownsRow base e size v n xs := by
  obtain ⟨hl, h⟩ := h
  refine ⟨hl, ?_⟩
  rcases h with h | ⟨g, cap, cur, rfl, hb, hh, h1, h2, h3, h4⟩
  · exact .inl h
  · exact .inr ⟨g, cap, cur, rfl, hb, hk.at (hx g rfl) hh, h1, h2, h3, h4⟩
theorem own_slc {w : World} {base size n : Nat} {e : TypeId} {v : Value} {xs : List Value} (h : w.ownsRow base e size v n xs) : ∃ ao m cap, v = .slice ao m cap := by
  rcases h.2 with ⟨h, _⟩ | ⟨g, cap, _, h, _⟩
  · exact ⟨_, _, _, h⟩
  · exact ⟨_, _, _, h⟩
def stCells (L : List (Nat × Nat)) : List Value := L.flatMap fun p => [.int .i64 (p.1 : Int), .int .i64 (p.2 : Int)]
theorem st_app (L M : List (Nat × Nat)) : stCells (L ++ M) = stCells L ++ stCells M := List.flatMap_append
theorem st_len (L : List (Nat × Nat)) : (stCells L).length = L.length * 2 := by
  induction L with
  | nil => rfl
  | cons x L ih => rw [stCells, List.flatMap_cons, List.length_append, ← stCells, ih]; simp; omega
/-- the stack of steps, in block c -/
def WayC (w : World) (c : Nat) (v : Value) (L : List (Nat × Nat)) : Prop := w.heap[c]? = some (.cells #[v] 87 (0, 0)) ∧ w.ownsRow (c + 1) 89 2 v L.length (stCells L)
theorem WayC.keeps {w w' : World} {X : Nat → Prop} {c : Nat} {v : Value} {L : List (Nat × Nat)} (h : WayC w c v L) (hk : Keeps w w' X) (hc : X c) (hx : ∀ g, v.ownBlock = some g → X g) : WayC w' c v L := ⟨hk.at hc h.1, own_keeps h.2 hk hx⟩
theorem info_step : (Tryd.prog.info? 89).map (fun i => (i.zero, i.size, i.bytes)) = some (some (.agg #[.int .i64 0, .int .i64 0]), 2, 16) := by kernel_rfl
theorem blk2s {w : World} {g : Nat} {a b : Value} {T : TypeId} (h : w.heap[g]? = some (.cells #[a, b] T (0, 0))) : w.cell? ⟨g, 0, none⟩ = some a ∧ w.cell? ⟨g, 1, none⟩ = some b := by
  refine ⟨?_, ?_⟩ <;> (rw [cell_of_row w g _ _ _ (0, 0) h]; rfl)
theorem blk1s {w : World} {g : Nat} {a : Value} {T : TypeId} (h : w.heap[g]? = some (.cells #[a] T (0, 0))) : w.cell? ⟨g, 0, none⟩ = some a := by
  rw [cell_of_row w g _ _ _ (0, 0) h]; rfl
theorem append_step {w : World} {ops : Array Oper} {rest : List Oper} {o : Oper} {a : Act} {Q : Exit → Act → World → Prop} (hgd : o.guard = none) (s x : Operand)
    (ho : o.op = .call { callee := .builtin .append, args := #[s, x], argTypes := #[87, 87] }) (base : Nat) (v : Value) (L : List (Nat × Nat)) (y : Nat × Nat) (b cap : Nat)
    (hs : a.eval s = v) (hx : a.eval x = .slice (some ⟨b, 0, none⟩) 1 cap) (hown : w.ownsRow base 89 2 v L.length (stCells L)) (hu : w.heap[b]? = some (.cells #[.int .i64 (y.1 : Int), .int .i64 (y.2 : Int)] 89 (0, 0))) (hlen : L.length ≤ 1048576) (hbase : base ≤ w.heap.size)
    (h : ∀ v' w', w'.ownsRow base 89 2 v' (L ++ [y]).length (stCells (L ++ [y])) → w.grownBy w' v.ownBlock → (v'.ownBlock = v.ownBlock ∨ v'.ownBlock = some w.heap.size) → wpList Tryd.prog ops Q rest (a.put o.dst v') w') : wpList Tryd.prog ops Q (o :: rest) a w := by
  obtain ⟨i0, hi, hz0, hz1, hz2⟩ := info_parts info_step
  obtain ⟨c0, c1⟩ := blk2s hu
  refine wpList_append_own_at w hgd s x 87 ho base 89 i0 _ 2 16 Tryd.underlying87 hi hz0 hz1 hz2 rfl (by decide) v _ _ hs hown ⟨b, 0, none⟩ 1 cap [.int .i64 (y.1 : Int), .int .i64 (y.2 : Int)] hx rfl ?_ ?_
      (by unfold maxLen; omega) (by omega) hbase ?_
  · intro j u hj
    match j, hj with
    | 0, hj => obtain rfl := Option.some.inj hj; rw [Addr.add_lit]; exact c0
    | 1, hj => obtain rfl := Option.some.inj hj; rw [Addr.add_lit]; exact c1
    | j + 2, hj => simp at hj
  · intro u hu
    simp at hu
    rcases hu with rfl | rfl <;> rfl
  · intro v' w' h2 h3 _ h5
    refine h v' w' ?_ h3 h5
    rw [st_app, List.length_append]
    exact h2
/-- walk$1: what enter does, and behind it, where the kids are wanted, a step more on the stack -/
def IntoO (w w' : World) (c n : Nat) (v : Value) (L : List (Nat × Nat)) (X : Nat → Prop) (R : Bool → World → Prop) : Prop :=
  ∃ b w1, R b w1 ∧ Keeps w w1 X ∧ (b = false → w' = w1) ∧ (b = true → ∃ v', WayC w' c v' (L ++ [(n, 0)]) ∧ (v'.ownBlock = v.ownBlock ∨ ∃ g, v'.ownBlock = some g ∧ w1.heap.size ≤ g) ∧ Keeps w1 w' (fun b => b ≠ c ∧ v.ownBlock ≠ some b))
set_option maxHeartbeats 4000000 in
set_option maxRecDepth 100000 in
theorem into_any (fid : Nat) (cs : Array Value) (n c d : Nat) (v : Value) (L : List (Nat × Nat)) (w : World) (X : Nat → Prop) (R : Bool → World → Prop)
    (hcf : ∀ args W, (callFunc fid args).run Tryd.prog W = .ok (.enter fid args) W) (hd : w.heap[d]? = some (.cells #[.func (.func fid) #[] cs] 76 (0, 0))) (hw : WayC w c v L) (hlen : L.length ≤ 1048576) (hXc : X c) (hXv : ∀ g, v.ownBlock = some g → X g)
    (he : Calls Tryd.prog fid (#[.int .i64 (n : Int)] ++ cs) w fun e w' => ∃ b, e = .returned (.bool b) ∧ Keeps w w' X ∧ R b w') :
    Calls Tryd.prog 53 #[.int .i64 (n : Int), .pointer (some ⟨d, 0, none⟩), .pointer (some ⟨c, 0, none⟩)] w fun e w' => e = .returned (.tuple #[]) ∧ IntoO w w' c n v L X R := by
  have HW := Lib.hid hw; have HE := Lib.hid he
  have p0 := blk1s hd
  have hcl : c < w.heap.size := (Array.getElem?_eq_some_iff.1 hw.1).1
  clear hw he hd
  go_enter Tryd.func53, Tryd.ntmps53
  go_wp2_with fail
  refine HE.out.mono ?_
  rintro e w1 ⟨b, rfl, hk, hr⟩
  have HK := Lib.hid hk; have HR := Lib.hid hr
  have HW1 := Lib.hid (HW.out.keeps hk hXc hXv)
  clear hk hr p0
  cases b
  · go_wp2
    go_end0
    exact ⟨rfl, false, w1, HR.out, HK.out, fun _ => rfl, fun h => by cases h⟩
  · have q0 := blk1s HW1.out.1
    have hcl1 : c < w1.heap.size := Nat.lt_of_lt_of_le hcl HK.out.1
    obtain ⟨W, eW, g2, bW, hWs⟩ := allocS w1 (Obj.cells #[.int .i64 (n : Int), .int .i64 0] 89)
    have KW : Hid (Keeps w1 W (fun _ => True)) := Lib.hid (eW ▸ Keeps.alloc w1 _)
    have HG : Hid (W.heap[w1.heap.size]? = some (.cells #[.int .i64 (((n, 0) : Nat × Nat).1 : Int), .int .i64 (((n, 0) : Nat × Nat).2 : Int)] 89 (0, 0))) := Lib.hid g2
    have OWN := Lib.hid (own_keeps HW1.out.2 KW.out (fun _ _ => trivial))
    have HCW := Lib.hid (KW.out.at trivial HW1.out.1)
    have HVC : Hid (∀ g, v.ownBlock = some g → c + 1 ≤ g ∧ g < w1.heap.size) := Lib.hid HW1.out.2.lt
    clear g2 bW
    go_wp2_with (at_builtin; refine append_step rfl (.tmp 7) (.tmp 10) rfl (c + 1) _ L (n, 0) w1.heap.size 1 rfl rfl OWN.out HG.out hlen (by omega) ?_; intro v3 w3 hown3 hgr3 hor3; obtain ⟨ao3, n3, cap3, rfl⟩ := own_slc hown3; have HO3 := Lib.hid hown3; have HG3 := Lib.hid hgr3; have HV3 := Lib.hid hor3; have HC3 := Lib.hid ((Keeps.of_grown HG3.out).at (b := c) (fun e => by have := (HVC.out c e).1; omega) HCW.out); have c3 := blk1s HC3.out; have f3 := frozen_of_row w3 c 0 _ _ HC3.out; clear hown3 hgr3 hor3)
    go_end0
    have K3 : Keeps w1 w3 (fun b => b ≠ c ∧ v.ownBlock ≠ some b) := (KW.out.weak (fun _ _ _ => trivial)).trans ((Keeps.of_grown HG3.out).weak (fun _ _ h => h.2))
    refine ⟨rfl, true, w1, HR.out, HK.out, (fun h => by cases h), fun _ => ⟨_, ⟨heap_setCell_row HC3.out rfl, ?_⟩, ?_, K3.trans (Keeps.set.weak (fun _ _ h => h.1))⟩⟩
    · refine own_keeps HO3.out Keeps.set (fun g hg => ?_)
      have := (HO3.out.lt g hg).1
      omega
    · rcases HV3.out with h | h
      · exact .inl h
      · exact .inr ⟨_, h, KW.out.1⟩
end Go.Proofs.YtpkdiciinhjfjaaDoor

/- sexp: walk, over any two closures: by the run of an explicit stack. -/
namespace Go.Proofs.YtpkdiciinhjfjaaDoor
open Go.RowKit Mth

theorem own_len {w : World} {base size n : Nat} {e : TypeId} {v : Value} {xs : List Value} (h : w.ownsRow base e size v n xs) : ∃ ao cap, v = .slice ao n cap := by
  rcases h.2 with ⟨e1, e2⟩ | ⟨g, cap, _, e1, _⟩
  · exact ⟨none, 0, by rw [e1, e2]⟩
  · exact ⟨_, _, e1⟩
theorem own_some {w : World} {base size n : Nat} {e : TypeId} {v : Value} {xs : List Value} (h : w.ownsRow base e size v n xs) (hn : 0 < n) : ∃ g cap, v = .slice (some ⟨g, 0, none⟩) n cap := by
  rcases h.2 with ⟨h, rfl⟩ | ⟨g, cap, _, h, _⟩
  · omega
  · exact ⟨_, _, h⟩
theorem way_top {w : World} {c a i : Nat} {v : Value} {L : List (Nat × Nat)} (h : WayC w c v (L ++ [(a, i)])) : ∃ g cap, v = .slice (some ⟨g, 0, none⟩) (L.length + 1) cap ∧ c + 1 ≤ g ∧ g < w.heap.size ∧
    w.cell? ⟨g, L.length * 2, none⟩ = some (.int .i64 (a : Int)) ∧ w.cell? ⟨g, L.length * 2 + 1, none⟩ = some (.int .i64 (i : Int)) ∧ w.frozen? ⟨g, L.length * 2 + 1, none⟩ = false := by
  have ho := h.2
  rw [List.length_append] at ho
  obtain ⟨g, cap, rfl⟩ := own_some ho (by simp)
  have hl := ho.lt g rfl
  refine ⟨g, cap, rfl, hl.1, hl.2, ?_, ?_, ho.frozenAt _⟩
  · rw [ho.cellAt _ (by simp), st_app, List.getElem?_append_right (by rw [st_len]; omega), st_len, Nat.sub_self]; rfl
  · rw [ho.cellAt _ (by simp; omega), st_app, List.getElem?_append_right (by rw [st_len]; omega), st_len, Nat.add_sub_cancel_left]; rfl
theorem way_next {w : World} {c a i g cap : Nat} {L : List (Nat × Nat)} (h : WayC w c (.slice (some ⟨g, 0, none⟩) (L.length + 1) cap) (L ++ [(a, i)])) (hg : c < g) : WayC (w.setCell ⟨g, L.length * 2 + 1, none⟩ (.int .i64 ((i + 1 : Nat) : Int))) c (.slice (some ⟨g, 0, none⟩) (L.length + 1) cap) (L ++ [(a, i + 1)]) := by
  have ho := h.2
  rw [List.length_append] at ho
  refine ⟨Keeps.set.at (by omega) h.1, ?_⟩
  have hs := (ho.stored (L.length * 2 + 1) (.int .i64 ((i + 1 : Nat) : Int))).1
  rw [List.length_append, st_app]
  rw [st_app, List.set_append_right _ _ (by rw [st_len]; omega), st_len, Nat.add_sub_cancel_left] at hs
  exact hs
theorem way_pop {w : World} {c a i g cap : Nat} {L : List (Nat × Nat)} (h : WayC w c (.slice (some ⟨g, 0, none⟩) (L.length + 1) cap) (L ++ [(a, i)])) (hg : c < g) : WayC (w.setCell ⟨c, 0, none⟩ (.slice (some ⟨g, 0, none⟩) L.length cap)) c (.slice (some ⟨g, 0, none⟩) L.length cap) L := by
  have ho := h.2
  rw [List.length_append, st_app] at ho
  exact ⟨heap_setCell_row h.1 rfl, own_keeps (ownsRow_pop (st_len L) ho) Keeps.set (fun x hx => by have e : g = x := Option.some.inj hx; omega)⟩

/-- into a node: what enter says, and a step more where its kids are wanted -/
def intoC {S : Type} (ent : S → Nat → Bool × S) (L : List (Nat × Nat)) (s : S) (n : Nat) : List (Nat × Nat) × S := (if (ent s n).1 then L ++ [(n, 0)] else L, (ent s n).2)
/-- the run of the stack: from here it is empty in j rounds -/
inductive Goes {S : Type} (T : List Nd) (ent : S → Nat → Bool × S) (lv : S → Nat → S) (okE okL : S → Nat → Prop) (s1 : S) : Nat → List (Nat × Nat) × S → Prop
  | done : Goes T ent lv okE okL s1 0 ([], s1)
  | leave {j : Nat} (L : List (Nat × Nat)) (s : S) (a : Nat) : okL s a → Goes T ent lv okE okL s1 j (L, lv s a) → Goes T ent lv okE okL s1 (j + 1) (L ++ [(a, (kidsF T a).length)], s)
  | into {j : Nat} (L : List (Nat × Nat)) (s : S) (a i k : Nat) : (kidsF T a)[i]? = some (k : Int) → okE s k → L.length < 1048576 → i < 4611686018427387904 → Goes T ent lv okE okL s1 j (intoC ent (L ++ [(a, i + 1)]) s k) → Goes T ent lv okE okL s1 (j + 1) (L ++ [(a, i)], s)
/-- what a walk asks of its closures -/
structure Vis {S : Type} (ent : S → Nat → Bool × S) (lv : S → Nat → S) (okE okL : S → Nat → Prop) (I : World → S → (Nat → Prop) → Prop) (tv : Value) (T : List Nd) (fe fl : Nat) (ce cl : Array Value) : Prop where
  cfe : ∀ args W, (callFunc fe args).run Tryd.prog W = .ok (.enter fe args) W
  cfl : ∀ args W, (callFunc fl args).run Tryd.prog W = .ok (.enter fl args) W
  keep : ∀ w w' s F, I w s F → Keeps w w' F → I w' s F
  tab : ∀ w s F, I w s F → SxL w tv T
  tabF : ∀ w s F b off n cap, I w s F → tv = .slice (some ⟨b, off, none⟩) n cap → F b
  lt : ∀ w s F, I w s F → ∀ b, F b → b < w.heap.size
  enter : ∀ w s F n, I w s F → okE s n → Calls Tryd.prog fe (#[.int .i64 (n : Int)] ++ ce) w fun e w' => ∃ F', e = .returned (.bool (ent s n).1) ∧ I w' (ent s n).2 F' ∧ Keeps w w' (fun b => ¬ F b) ∧ ∀ b, F' b → F b ∨ w.heap.size ≤ b
  leave : ∀ w s F n, I w s F → okL s n → Calls Tryd.prog fl (#[.int .i64 (n : Int)] ++ cl) w fun e w' => ∃ F', e = .returned (.tuple #[]) ∧ I w' (lv s n) F' ∧ Keeps w w' (fun b => ¬ F b) ∧ ∀ b, F' b → F b ∨ w.heap.size ≤ b
theorem into_rel {S : Type} {ent : S → Nat → Bool × S} {lv : S → Nat → S} {okE okL : S → Nat → Prop} {I : World → S → (Nat → Prop) → Prop} {tv : Value} {T : List Nd} {fe fl : Nat} {ce cl : Array Value} (V : Vis ent lv okE okL I tv T fe fl ce cl)
    {w w' : World} {c n : Nat} {v : Value} {L : List (Nat × Nat)} {F : Nat → Prop} {s : S} (hw : WayC w c v L) (hc : ¬ F c) (hv : ∀ g, v.ownBlock = some g → ¬ F g)
    (h : IntoO w w' c n v L (fun b => ¬ F b) (fun b w1 => ∃ F', b = (ent s n).1 ∧ I w1 (ent s n).2 F' ∧ ∀ x, F' x → F x ∨ w.heap.size ≤ x)) :
    ∃ v' F', WayC w' c v' (intoC ent L s n).1 ∧ I w' (intoC ent L s n).2 F' ∧ ¬ F' c ∧ (∀ g, v'.ownBlock = some g → ¬ F' g) ∧ (∀ x, F' x → F x ∨ w.heap.size ≤ x) ∧ Keeps w w' (fun b => ¬ F b ∧ b ≠ c ∧ v.ownBlock ≠ some b) := by
  obtain ⟨b, w1, ⟨F', hb, hI, hF⟩, hk, h0, h1⟩ := h
  have hcl : c < w.heap.size := (Array.getElem?_eq_some_iff.1 hw.1).1
  have hvl := hw.2.lt
  have hc' : ¬ F' c := fun h => by rcases hF c h with h | h; exact hc h; omega
  have hv' : ∀ g, v.ownBlock = some g → ¬ F' g := fun g hg h => by
    rcases hF g h with h | h
    · exact hv g hg h
    · have := (hvl g hg).2; omega
  unfold intoC
  rw [← hb]
  cases b
  · obtain rfl := h0 rfl
    exact ⟨v, F', hw.keeps hk hc (fun g hg => hv g hg), hI, hc', hv', hF, hk.weak (fun _ _ h => h.1)⟩
  · obtain ⟨v', hw', hor, hk'⟩ := h1 rfl
    have hI' := V.keep _ _ _ _ hI (hk'.weak (fun x _ hx => ⟨fun e => hc' (e ▸ hx), fun e => hv' x e hx⟩))
    refine ⟨v', F', hw', hI', hc', fun g hg h => ?_, hF, (hk.weak (fun _ _ h => h.1)).trans (hk'.weak (fun _ _ h => h.2))⟩
    rcases hor with e | ⟨g', e, hge⟩
    · exact hv' g (e ▸ hg) h
    · have := V.lt _ _ _ hI g h
      rw [e] at hg
      obtain rfl := Option.some.inj hg
      omega
end Go.Proofs.YtpkdiciinhjfjaaDoor

/- sexp: walk itself. -/
namespace Go.Proofs.YtpkdiciinhjfjaaDoor
open Go.RowKit Mth

theorem own_max {w : World} {base size n : Nat} {e : TypeId} {v : Value} {xs : List Value} (h : w.ownsRow base e size v n xs) : n ≤ maxLen := by
  rcases h.2 with ⟨_, e2⟩ | ⟨g, cap, _, _, _, _, h1, h2, _⟩
  · rw [e2]; exact Nat.zero_le _
  · omega
theorem Goes.inv {S : Type} {T : List Nd} {ent : S → Nat → Bool × S} {lv : S → Nat → S} {okE okL : S → Nat → Prop} {s1 : S} {n : Nat} {L : List (Nat × Nat)} {s : S} (h : Goes T ent lv okE okL s1 n (L, s)) :
    (L = [] ∧ s = s1) ∨ (∃ (j : Nat) (L' : List (Nat × Nat)) (a : Nat), n = j + 1 ∧ L = L' ++ [(a, (kidsF T a).length)] ∧ okL s a ∧ Goes T ent lv okE okL s1 j (L', lv s a)) ∨
    (∃ (j : Nat) (L' : List (Nat × Nat)) (a i k : Nat), n = j + 1 ∧ L = L' ++ [(a, i)] ∧ (kidsF T a)[i]? = some (k : Int) ∧ okE s k ∧ L'.length < 1048576 ∧ i < 4611686018427387904 ∧ Goes T ent lv okE okL s1 j (intoC ent (L' ++ [(a, i + 1)]) s k)) := by
  cases h with
  | done => exact .inl ⟨rfl, rfl⟩
  | leave L' _ a h1 h2 => exact .inr (.inl ⟨_, L', a, rfl, rfl, h1, h2⟩)
  | into L' _ a i k h1 h2 h3 h4 h5 => exact .inr (.inr ⟨_, L', a, i, k, rfl, rfl, h1, h2, h3, h4, h5⟩)
theorem own_cap {w : World} {base size n m cap : Nat} {ao : Option Addr} {e : TypeId} {xs : List Value} (h : w.ownsRow base e size (.slice ao m cap) n xs) : n ≤ cap := by
  rcases h.2 with ⟨_, e2⟩ | ⟨g, cp, _, e1, _, _, h1, _⟩
  · rw [e2]; exact Nat.zero_le _
  · simp only [Value.slice.injEq] at e1
    omega
/-- where a list's kids stand -/
def KidsO (w : World) (v : Value) (L : List Nd) (n : Int) (kv : Value) : Prop := (kv = .slice none 0 0 ∧ kidsF L n = []) ∨
  ∃ b off cap k, ∃ hk : k < L.length, v = .slice (some ⟨b, off, none⟩) L.length cap ∧ kidsF L n = L[k].kids ∧ w.cell? ⟨b, off + k * 7 + 6, none⟩ = some kv ∧ b < w.heap.size
theorem Keeps.cell {w w' : World} {X : Nat → Prop} (h : Keeps w w' X) {b o : Nat} (hb : b < w.heap.size) (hx : X b) : w'.cell? ⟨b, o, none⟩ = w.cell? ⟨b, o, none⟩ := by
  unfold World.cell?
  rw [h.2 b hb hx]
theorem KidsO.keep {w w' : World} {X : Nat → Prop} {v kv : Value} {L : List Nd} {n : Int} (h : KidsO w v L n kv) (hk : Keeps w w' X) (hx : ∀ b off m cap, v = .slice (some ⟨b, off, none⟩) m cap → X b) (hs : SxL w' v L) : InL w' kv (kidsF L n) := by
  rcases h with ⟨rfl, e⟩ | ⟨b, off, cap, k, hkl, rfl, e, hc, hb⟩
  · rw [e]; exact InL.nil _
  · obtain ⟨b', off', na, nc, e', -, -, -, -, -, -, -, c6, hkv⟩ := hs.at hkl
    simp only [Option.some.injEq, Addr.mk.injEq, and_true] at e'
    obtain ⟨rfl, rfl⟩ := e'
    rw [hk.cell hb (hx _ _ _ _ rfl), hc] at c6
    obtain rfl := Option.some.inj c6
    rw [e]; exact hkv
set_option maxHeartbeats 2000000 in
set_option maxRecDepth 100000 in
theorem kidsOf_is (v : Value) (L : List Nd) (n : Int) (w : World) (h : SxL w v L) : Calls Tryd.prog 29 #[v, .int .i64 n] w fun e w' => ∃ v', e = .returned v' ∧ InL w v' (kidsF L n) ∧ KidsO w v L n v' ∧ w' = w := by
  have H := Lib.hid h
  have HA := Lib.hid (has_any v L n w h)
  by_cases hn : 0 ≤ n ∧ n < L.length
  · obtain ⟨k, rfl⟩ : ∃ k : Nat, n = k := ⟨n.toNat, by omega⟩
    have hk : k < L.length := by omega
    have hx : L[k]? = some L[k] := List.getElem?_eq_getElem hk
    have hne : L ≠ [] := fun e => by rw [e] at hk; simp at hk
    have KF : Hid (kidsF L (k : Int) = if (L[k]).kind = 2 then (L[k]).kids else []) := Lib.hid (by unfold kidsF; rw [ndAt_some hk])
    rw [has_yes hk] at HA
    obtain ⟨ao, cap, rfl, hc⟩ := h
    obtain ⟨b, off, rfl, hlt, hcc⟩ := hc hne
    obtain ⟨c0, -, kv, c6, hkv⟩ := hcc k _ hx
    have HKV := Lib.hid hkv
    obtain ⟨ka, kc, rfl⟩ := hkv.shape
    have KS : Hid ((L[k]).kind = 2 → KidsO w (.slice (some ⟨b, off, none⟩) L.length cap) L (k : Int) (.slice ka (L[k]).kids.length kc)) := Lib.hid (fun e => .inr ⟨b, off, cap, k, hk, rfl, by rw [KF.out, if_pos e], c6, hlt⟩)
    generalize L[k] = nd at *
    obtain ⟨kind, tok, kids⟩ := nd
    clear hcc hc hx hne hkv hn
    by_cases h2 : kind = 2
    · have KF2 : Hid (kidsF L (k : Int) = kids) := Lib.hid (by rw [KF.out]; exact if_pos h2)
      have KS2 := Lib.hid (KS.out h2)
      have d2 : (kind != 2) = false := by rw [h2]; rfl
      clear h2 KF KS
      go_enter Tryd.func29, Tryd.ntmps29
      go_wp2_with fail
      refine HA.out.mono ?_
      rintro e w1 ⟨rfl, rfl⟩
      go_wp2
      go_ret
      exact ⟨_, rfl, by rw [KF2.out]; exact HKV.out, KS2.out, rfl⟩
    · have KF2 : Hid (kidsF L (k : Int) = []) := Lib.hid (by rw [KF.out]; exact if_neg h2)
      have d2 : (kind != 2) = true := bne_iff_ne.2 h2
      clear h2 KF KS
      go_enter Tryd.func29, Tryd.ntmps29
      go_wp2_with fail
      refine HA.out.mono ?_
      rintro e w1 ⟨rfl, rfl⟩
      go_wp2
      go_ret
      exact ⟨_, rfl, by rw [KF2.out]; exact InL.nil _, .inl ⟨rfl, KF2.out⟩, rfl⟩
  · have KF2 : Hid (kidsF L n = []) := Lib.hid (by unfold kidsF; rw [ndAt_none hn])
    rw [has_no hn] at HA
    clear hn h
    go_enter Tryd.func29, Tryd.ntmps29
    go_wp2_with fail
    refine HA.out.mono ?_
    rintro e w1 ⟨rfl, rfl⟩
    go_wp2
    go_ret
    exact ⟨_, rfl, by rw [KF2.out]; exact InL.nil _, .inl ⟨rfl, KF2.out⟩, rfl⟩
/-- what holds at the head of walk's loop -/
def WalkR {S : Type} (I : World → S → (Nat → Prop) → Prop) (G : Nat → List (Nat × Nat) × S → Prop) (F0 : Nat → Prop) (fv : Value) (w : World) (d c gk : Nat) (wr : World) : Prop :=
  ∃ L s F v, G gk (L, s) ∧ WayC wr c v L ∧ I wr s F ∧ ¬ F c ∧ ¬ F d ∧ (∀ g, v.ownBlock = some g → ¬ F g) ∧ wr.heap[d]? = some (.cells #[fv] 76 (0, 0)) ∧ (∀ x, F x → F0 x ∨ w.heap.size ≤ x) ∧ Keeps w wr (fun b => ¬ F0 b)
set_option maxHeartbeats 8000000 in
set_option maxRecDepth 100000 in
theorem walk_any {S : Type} {ent : S → Nat → Bool × S} {lv : S → Nat → S} {okE okL : S → Nat → Prop} {I : World → S → (Nat → Prop) → Prop} {tv : Value} {T : List Nd} {fe fl : Nat} {ce cl : Array Value} (V : Vis ent lv okE okL I tv T fe fl ce cl)
    (w : World) (r j : Nat) (s0 s1 : S) (F0 : Nat → Prop) (hI : I w s0 F0) (hr : okE s0 r) (hg : Goes T ent lv okE okL s1 j (intoC ent [] s0 r)) :
    Calls Tryd.prog 25 #[tv, .int .i64 (r : Int), .func (.func fe) #[] ce, .func (.func fl) #[] cl] w fun e w' => e = .returned (.tuple #[]) ∧ ∃ F, I w' s1 F ∧ Keeps w w' (fun b => ¬ F0 b) ∧ ∀ b, F b → F0 b ∨ w.heap.size ≤ b := by
  have HV := Lib.hid V; have HI := Lib.hid hI; have HR := Lib.hid hr; have HGO := Lib.hid hg
  have HF0 : Hid (∀ b, F0 b → b < w.heap.size) := Lib.hid (V.lt _ _ _ hI)
  obtain ⟨ta, tc, rfl⟩ := (V.tab _ _ _ hI).shape
  obtain ⟨W1, eW1, g1, bW1, -⟩ := allocS w (Obj.cells #[.func (.func fe) #[] ce] 76)
  obtain ⟨W, eW, g2, bW, -⟩ := allocS W1 (Obj.cells #[.slice none 0 0] 87)
  have hsz1 : W1.heap.size = w.heap.size + 1 := by rw [← eW1]; simp
  rw [hsz1] at g2
  have KW : Hid (Keeps w W (fun _ => True)) := Lib.hid (Keeps.trans (eW1 ▸ Keeps.alloc w _) (eW ▸ Keeps.alloc W1 _))
  have HD : Hid (W.heap[w.heap.size]? = _) := Lib.hid (blkT bW g1)
  have HWC : Hid (WayC W (w.heap.size + 1) (.slice none 0 0) []) := Lib.hid ⟨g2, World.ownsRow_nil _ _ _ _⟩
  have HIW := Lib.hid (V.keep _ _ _ _ hI (KW.out.weak (fun _ _ _ => trivial)))
  have HC0 : Hid (¬ F0 (w.heap.size + 1)) := Lib.hid (fun h => by have := HF0.out _ h; omega)
  have HD0 : Hid (¬ F0 w.heap.size) := Lib.hid (fun h => by have := HF0.out _ h; omega)
  have IA := Lib.hid (into_any fe ce r (w.heap.size + 1) w.heap.size (.slice none 0 0) [] W (fun b => ¬ F0 b) (fun b w1 => ∃ F', b = (ent s0 r).1 ∧ I w1 (ent s0 r).2 F' ∧ ∀ x, F' x → F0 x ∨ W.heap.size ≤ x) V.cfe HD.out HWC.out (by simp) HC0.out (fun g hg => by cases hg)
    ((V.enter _ _ _ r HIW.out hr).mono (by rintro e w' ⟨F', h1, h2, h3, h4⟩; exact ⟨_, h1, h3, F', rfl, h2, h4⟩)))
  clear hI hr hg g1 g2 bW1 bW V
  go_enter Tryd.func25, Tryd.ntmps25
  go_wp2_with fail
  refine IA.out.mono ?_
  rintro e w1 ⟨rfl, ho⟩
  obtain ⟨v, F, hw, hi, hc, hv, hF, hk⟩ := into_rel HV.out HWC.out HC0.out (fun g hg => by cases hg) ho
  have START : Hid (WalkR I (Goes T ent lv okE okL s1) F0 (.func (.func fe) #[] ce) w w.heap.size (w.heap.size + 1) j w1) := Lib.hid ⟨_, _, F, v, HGO.out, hw, hi, hc,
    (fun h => by rcases hF _ h with h | h; exact HD0.out h; have := (Array.getElem?_eq_some_iff.1 HD.out).1; omega), hv, hk.at ⟨HD0.out, by omega, fun h => by cases h⟩ HD.out,
    (fun x hx => (hF x hx).imp id (fun h => Nat.le_trans KW.out.1 h)), (KW.out.weak (fun _ _ _ => trivial)).on hk (fun b hb hx => ⟨hx, by omega, fun h => by cases h⟩)⟩
  clear IA HWC HIW HI HGO HR hw hi hc hv hF hk ho
  go_wp2
  go_loopg [10, 11] j (fun gk _ _ wr => WalkR I (Goes T ent lv okE okL s1) F0 (.func (.func fe) #[] ce) w w.heap.size (w.heap.size + 1) gk wr)
  case atStart => exact START.out
  case round =>
    obtain ⟨L, s, F, v, hg, hw, hi, hc, hd, hv, hbox, hsub, hk⟩ := hrel
    have HW := Lib.hid hw; have HI := Lib.hid hi; have HC := Lib.hid hc; have HDD := Lib.hid hd; have HVV := Lib.hid hv; have HBOX := Lib.hid hbox; have HSUB := Lib.hid hsub; have HK := Lib.hid hk
    have p0 := blk1s hw.1
    clear START hi hc hd hv hbox hsub hk
    rcases hg.inv with ⟨rfl, rfl⟩ | ⟨j', L', a, rfl, rfl, hok, hg2⟩ | ⟨j', L', a, i, k, rfl, rfl, hki, hok, hln, hin, hg2⟩
    · obtain ⟨ao, cap, rfl⟩ := own_len hw.2
      clear hg hw
      go_wp2
      go_end0
      exact ⟨rfl, F, HI.out, HK.out, HSUB.out⟩
    · have HG2 := Lib.hid hg2; have HOK := Lib.hid hok
      have hmx := own_max hw.2
      rw [List.length_append] at hmx
      obtain ⟨g, cap, rfl, hg1, hgl, c0, c1, f1⟩ := way_top hw
      have e1 : wrap64 (L'.length : Int) = L'.length := IntWalk.wrap64_in _ (by unfold maxLen at hmx; omega)
      have e2 : wrap64 (((L'.length + 1 : Nat) : Int) - 1) = L'.length := by rw [show (((L'.length + 1 : Nat) : Int) - 1) = (L'.length : Int) by omega]; exact e1
      have KO := Lib.hid (kidsOf_is _ T (a : Int) wr (HV.out.tab _ _ _ HI.out))
      have hcap : L'.length ≤ cap := by have := own_cap hw.2; simp at this; omega
      have hcfl := HV.out.cfl
      have LV := Lib.hid (HV.out.leave _ _ _ a HI.out HOK.out)
      have hcl : w.heap.size + 1 < wr.heap.size := (Array.getElem?_eq_some_iff.1 HW.out.1).1
      clear hg hw hok hg2 hmx
      go_wp2_with fail
      refine KO.out.mono ?_
      rintro e w2 ⟨kv, rfl, hkv, -, rfl⟩
      obtain ⟨ka, kc, rfl⟩ := hkv.shape
      clear hkv KO
      go_wp2_with fail
      refine LV.out.mono ?_
      rintro e w3 ⟨F', rfl, hi3, hk3, hf3⟩
      have HW3 := Lib.hid (HW.out.keeps hk3 HC.out HVV.out)
      have HI3 := Lib.hid hi3; have HK3 := Lib.hid hk3; have HF3 := Lib.hid hf3
      have q0 := blk1s HW3.out.1
      have q1 := frozen_of_row w3 (w.heap.size + 1) 0 _ _ HW3.out.1
      clear p0 c0 c1 f1 hi3 hk3 hf3 LV
      have hsz3 := HK3.out.1
      go_wp2
      go_roundg j'
      case measure => omega
      case rel =>
        have hc3 : ¬ F' (w.heap.size + 1) := fun h => by rcases HF3.out _ h with h | h; exact HC.out h; omega
        have hd3 : ¬ F' w.heap.size := fun h => by rcases HF3.out _ h with h | h; exact HDD.out h; omega
        have hg3 : ¬ F' g := fun h => by rcases HF3.out _ h with h | h; exact HVV.out g rfl h; omega
        exact ⟨L', lv s a, F', _, HG2.out, way_pop HW3.out (by omega), HV.out.keep _ _ _ _ HI3.out (Keeps.set.weak (fun x _ hx e => hc3 (e ▸ hx))), hc3, hd3, (fun x hx => by have e : g = x := Option.some.inj hx; exact e ▸ hg3),
          Keeps.set.at (by omega) (HK3.out.at HDD.out HBOX.out), (fun x hx => by rcases HF3.out x hx with h | h; exact HSUB.out x h; exact .inr (by omega)),
          (HK.out.on HK3.out (fun b hb hx h => by rcases HSUB.out b h with h | h; exact hx h; omega)).on (X := fun b => ¬ F0 b) Keeps.set (fun b hb _ e => by omega)⟩
    · have HG2 := Lib.hid hg2; have HOK := Lib.hid hok; have HLN := Lib.hid hln
      obtain ⟨g, cap, rfl, hg1, hgl, c0, c1, f1⟩ := way_top hw
      have e1 : wrap64 (L'.length : Int) = L'.length := IntWalk.wrap64_in _ (by omega)
      have e3 : wrap64 ((i : Int) + 1) = (i : Int) + 1 := IntWalk.wrap64_in _ (by omega)
      have e4 : wrap64 (i : Int) = (i : Int) := IntWalk.wrap64_in _ (by omega)
      have hil : i < (kidsF T a).length := (List.getElem?_eq_some_iff.1 hki).1
      have d1 : ((i : Int) == ((kidsF T a).length : Int)) = false := beq_eq_false_iff_ne.2 (fun e => Nat.ne_of_lt hil (Int.ofNat.inj e))
      have KO := Lib.hid (kidsOf_is _ T (a : Int) wr (HV.out.tab _ _ _ HI.out))
      have hcl : w.heap.size + 1 < wr.heap.size := (Array.getElem?_eq_some_iff.1 HW.out.1).1
      obtain ⟨w4, ew4⟩ : ∃ w4, wr.setCell ⟨g, L'.length * 2 + 1, none⟩ (.int .i64 ((i : Int) + 1)) = w4 := ⟨_, rfl⟩
      have KS : Hid (Keeps wr w4 (fun b => b ≠ g)) := Lib.hid (ew4 ▸ Keeps.set)
      have HW4 : Hid (WayC w4 (w.heap.size + 1) (.slice (some ⟨g, 0, none⟩) (L'.length + 1) cap) (L' ++ [(a, i + 1)])) := Lib.hid (by
        have h := way_next HW.out (by omega)
        rw [show ((i + 1 : Nat) : Int) = (i : Int) + 1 by omega, ew4] at h
        exact h)
      have KF : Hid (Keeps wr w4 F) := Lib.hid (KS.out.weak (fun x _ hx e => HVV.out g rfl (e ▸ hx)))
      have HI4 := Lib.hid (HV.out.keep _ _ _ _ HI.out KF.out)
      have p4 := blk1s HW4.out.1
      have c4 : w4.cell? ⟨g, L'.length * 2 + 1, none⟩ = some (.int .i64 ((i : Int) + 1)) := by
        obtain ⟨g', cap', e, -, -, -, c, -⟩ := way_top HW4.out
        simp only [Value.slice.injEq, Option.some.injEq, Addr.mk.injEq] at e
        obtain ⟨⟨rfl, _⟩, _⟩ := e
        rw [c, show ((i + 1 : Nat) : Int) = (i : Int) + 1 by omega]
      have hsz4 := KS.out.1
      have HBX4 : Hid (w4.heap[w.heap.size]? = _) := Lib.hid (KS.out.at (by omega) HBOX.out)
      have IA := Lib.hid (into_any fe ce k (w.heap.size + 1) w.heap.size _ (L' ++ [(a, i + 1)]) w4 (fun b => ¬ F b) (fun b w1 => ∃ F', b = (ent s k).1 ∧ I w1 (ent s k).2 F' ∧ ∀ x, F' x → F x ∨ w4.heap.size ≤ x) HV.out.cfe HBX4.out HW4.out (by rw [List.length_append]; simp; omega) HC.out HVV.out
        ((HV.out.enter _ _ _ k HI4.out HOK.out).mono (by rintro e w' ⟨F', h1, h2, h3, h4⟩; exact ⟨_, h1, h3, F', rfl, h2, h4⟩)))
      have HKI := Lib.hid hki
      clear hg hw hok hg2 hki hln
      go_wp2_with fail
      refine KO.out.mono ?_
      rintro e w2 ⟨kv, rfl, hkv, hko, rfl⟩
      have HKV := Lib.hid (hko.keep KF.out (fun b off m cp e => HV.out.tabF _ _ _ b off m cp HI.out e) (HV.out.tab _ _ _ HI4.out))
      clear hkv hko KO
      obtain ⟨ka, kc, rfl, hkc⟩ := HKV.out
      obtain ⟨kb, ko, rfl, hkb, hkcc⟩ := hkc (fun e => by rw [e] at hil; simp at hil)
      have k4 := hkcc i _ HKI.out
      clear hkc hkcc HKV
      go_wp2_with fail
      refine IA.out.mono ?_
      rintro e w5 ⟨rfl, ho⟩
      obtain ⟨v5, F5, hw5, hi5, hc5, hv5, hf5, hk5⟩ := into_rel HV.out HW4.out HC.out HVV.out ho
      have HW5 := Lib.hid hw5; have HI5 := Lib.hid hi5; have HC5 := Lib.hid hc5; have HV5 := Lib.hid hv5; have HF5 := Lib.hid hf5; have HK5 := Lib.hid hk5
      clear ho hw5 hi5 hc5 hv5 hf5 hk5 IA p0 p4 c0 c1 c4 f1 k4
      go_wp2
      go_roundg j'
      case measure => omega
      case rel =>
        exact ⟨_, _, F5, v5, HG2.out, HW5.out, HI5.out, HC5.out, (fun h => by rcases HF5.out _ h with h | h; exact HDD.out h; omega), HV5.out,
          HK5.out.at ⟨HDD.out, by omega, fun e => by have e : g = w.heap.size := Option.some.inj e; omega⟩ HBX4.out, (fun x hx => by rcases HF5.out x hx with h | h; exact HSUB.out x h; exact .inr (by omega)),
          (HK.out.on KS.out (fun b hb hx e => by omega)).on HK5.out (fun b hb hx => ⟨fun h => by rcases HSUB.out b h with h | h; exact hx h; omega, by omega, fun e => by have e : g = b := Option.some.inj e; omega⟩)⟩
end Go.Proofs.YtpkdiciinhjfjaaDoor
