/- RP RQ RS RT. -/
import Derived.Test.YthgmebnihpjnoaaGreatDoorQB1
import Derived.LoopTactic
import Derived.Test.YthgmebnihpjnoaaGreatDoorQB2
set_option linter.unusedVariables false
set_option linter.unusedSimpArgs false
/- Package ratio: lists of fractions in memory; check. -/
namespace Go.Proofs.YthgmebnihpjnoaaGreatDoor
open Go.RowKit Mth

/-- a list of Rats in memory: of each its value, its numerator, its denominator -/
def RaL (w : World) (v : Value) (L : List (Value × Int × Nat)) : Prop := ∃ ao cap, v = .slice ao L.length cap ∧ (L ≠ [] → ∃ b off, ao = some ⟨b, off, none⟩ ∧ b < w.heap.size ∧ ∀ i y, L[i]? = some y → RatV w y.1 y.2.1 y.2.2 ∧
  ∃ s0 s1 s2, y.1 = .agg #[s0, s1, s2] ∧ w.cell? ⟨b, off + i * 3, none⟩ = some s0 ∧ w.cell? ⟨b, off + i * 3 + 1, none⟩ = some s1 ∧ w.cell? ⟨b, off + i * 3 + 2, none⟩ = some s2)
theorem RaL.below {w w' : World} {v : Value} {L : List (Value × Int × Nat)} (h : RaL w v L) (hb : Below w.heap.size w w') : RaL w' v L := by
  obtain ⟨ao, cap, h1, h2⟩ := h
  refine ⟨ao, cap, h1, fun hn => ?_⟩
  obtain ⟨b, off, e, hlt, hc⟩ := h2 hn
  refine ⟨b, off, e, Nat.lt_of_lt_of_le hlt hb.size, fun i y hy => ?_⟩
  obtain ⟨hr, s0, s1, s2, e0, c0, c1, c2⟩ := hc i y hy
  exact ⟨hr.below hb, s0, s1, s2, e0, (hb.cell (p := ⟨b, off + i * 3, none⟩) hlt).trans c0, (hb.cell (p := ⟨b, off + i * 3 + 1, none⟩) hlt).trans c1, (hb.cell (p := ⟨b, off + i * 3 + 2, none⟩) hlt).trans c2⟩
def rzero (L : List (Value × Int × Nat)) : Prop := ∃ y ∈ L, y.2.2 = 0
def rlong1 (y : Value × Int × Nat) : Prop := BigR ≤ y.2.1.natAbs ∨ BigR ≤ y.2.2
def rlong (L : List (Value × Int × Nat)) : Prop := ∃ y ∈ L, rlong1 y
/-- what check says -/
def ChkO (L : List (Value × Int × Nat)) (E : Int) : Prop := (rzero L ∧ E = 11) ∨ (¬ rzero L ∧ rlong L ∧ E = 5) ∨ (¬ rzero L ∧ ¬ rlong L ∧ E = 0)
def CkA (w wr : World) (L : List (Value × Int × Nat)) (i : Value) : Prop := ∃ k : Nat, k ≤ L.length ∧ i = .int .i64 (k : Int) ∧ Below w.heap.size w wr ∧ ∀ (j : Nat) y, j < k → L[j]? = some y → y.2.2 ≠ 0
def CkB (w wr : World) (L : List (Value × Int × Nat)) (i : Value) : Prop := ∃ k : Nat, k ≤ L.length ∧ i = .int .i64 (k : Int) ∧ Below w.heap.size w wr ∧ ∀ (j : Nat) y, j < k → L[j]? = some y → ¬ rlong1 y
theorem all_step' {α : Type} {L : List α} {P : α → Prop} {k : Nat} {x : α} (h : ∀ (j : Nat) y, j < k → L[j]? = some y → P y) (hx : L[k]? = some x) (hp : P x) : ∀ (j : Nat) y, j < k + 1 → L[j]? = some y → P y := fun j y hj hy => by
  by_cases e : j = k
  · subst e; have := hx.symm.trans hy; obtain rfl := Option.some.inj this; exact hp
  · exact h j y (by omega) hy
theorem all_none {α : Type} {L : List α} {P : α → Prop} (h : ∀ (j : Nat) y, j < L.length → L[j]? = some y → ¬ P y) : ¬ ∃ y ∈ L, P y := fun ⟨y, hy, hp⟩ => by
  obtain ⟨j, hj, e⟩ := List.mem_iff_getElem.1 hy
  exact h j y hj (by rw [List.getElem?_eq_getElem hj, e]) hp
set_option maxHeartbeats 4000000 in
set_option maxRecDepth 100000 in
theorem check_any (L : List (Value × Int × Nat)) (v : Value) (w : World) (hv : RaL w v L) (hlen : L.length ≤ 1048576) : Calls Tryz.prog 49 #[v] w fun e w' => ∃ E : Int, e = .returned (.int .i64 E) ∧ ChkO L E ∧ Below w.heap.size w w' := by
  have HV := Lib.hid hv
  obtain ⟨ao, cap, rfl, _⟩ := hv
  go_enter Tryz.func49, Tryz.ntmps49
  go_wp2
  go_loopw [4, 9] (fun _ i wr => CkA w wr L i) (fun _ i _ => L.length - (intOf i).toNat)
  case atStart => exact ⟨0, Nat.zero_le _, rfl, Below.refl _ _, fun j y hj => by omega⟩
  case round =>
    obtain ⟨k, hk, rfl, hbel, hno⟩ := hrel
    have HB := Lib.hid hbel; have HNO := Lib.hid hno
    clear hbel hno
    by_cases hlt : k < L.length
    · have hx : L[k]? = some L[k] := List.getElem?_eq_getElem hlt
      have hne : L ≠ [] := fun e => by rw [e] at hlt; simp at hlt
      have HM : Hid (L[k] ∈ L) := Lib.hid (List.getElem_mem hlt)
      obtain ⟨ao', cap', he, hc⟩ := HV.out.below HB.out
      obtain ⟨b, off, hb, hblt, hcc⟩ := hc hne
      injection he with he1 he2 he3
      rw [hb] at he1
      subst he1
      obtain ⟨hr, s0, s1, s2, e0, c0, c1, c2⟩ := hcc k _ hx
      have HX := Lib.hid hx
      generalize L[k] = y at *
      obtain ⟨vy, x, d⟩ := y
      obtain ⟨n, a, kk, c, a', k', c', xs, ys, ev, hs, hl, hxl, hxv, hs', hl', hyl, hd⟩ := hr
      have e1 : Value.agg #[s0, s1, s2] = Value.agg #[.bool n, .slice a kk c, .slice a' k' c'] := e0.symm.trans ev
      simp only [Value.agg.injEq, Array.mk.injEq, List.cons.injEq, and_true] at e1
      obtain ⟨rfl, rfl, rfl⟩ := e1
      have TR : Hid (∀ o, Calls Tryz.prog 44 #[.slice a' k' c'] (wr.alloc o) fun e w' => e = .returned (.slice a' (tlen ys) c') ∧ w' = wr.alloc o) := Lib.hid (fun o => rtrim_eq (hs'.below ((Below.refl _ _).alloc (Nat.le_refl _) o)))
      have HBA : Hid (∀ o, Below w.heap.size w (wr.alloc o)) := Lib.hid (fun o => HB.out.alloc HB.out.size o)
      obtain ⟨⟨p0, p1, p2⟩, _, _⟩ := blk3 (heap_alloc_new wr (Obj.cells #[.bool n, .slice a kk c, .slice a' k' c'] 27))
      have HD : Hid (tlen ys = 0 ↔ d = 0) := Lib.hid (by rw [show d = val B64 ys from hd]; exact tlen_zero_iff)
      have htl : tlen ys ≤ 4000000 := Nat.le_trans (tlen_le ys) hyl
      clear hx hc hcc he2 he3 hne hs hl hxl hxv hs' hl' hyl hd e0 ev
      generalize tlen ys = m at *
      by_cases hm : m = 0
      · have HZ : Hid (rzero L) := Lib.hid ⟨_, HM.out, HD.out.1 hm⟩
        subst hm
        go_wp2_with (go_at_call 44; refine (TR.out _).mono ?_; rintro e w1 ⟨rfl, rfl⟩)
        go_ret
        exact ⟨_, rfl, .inl ⟨HZ.out, rfl⟩, HBA.out _⟩
      · have HN2 := Lib.hid (all_step' (P := fun y : Value × Int × Nat => y.2.2 ≠ 0) HNO.out HX.out (fun e => hm (HD.out.2 e)))
        have em : ((m : Int) == 0) = false := beq_eq_false_iff_ne.2 (by omega)
        clear hm
        go_wp2_with (go_at_call 44; refine (TR.out _).mono ?_; rintro e w1 ⟨rfl, rfl⟩)
        go_roundw
        case rel => exact ⟨k + 1, by omega, by go_num, HBA.out _, HN2.out⟩
        case measure => simp [intOf]; omega
    · obtain rfl : k = L.length := by omega
      have HNZ : Hid (¬ rzero L) := Lib.hid (all_none (P := fun y : Value × Int × Nat => y.2.2 = 0) HNO.out)
      go_wp2
      go_loopw [6, 21] (fun _ i wr => CkB w wr L i) (fun _ i _ => L.length - (intOf i).toNat)
      case atStart => exact ⟨0, Nat.zero_le _, rfl, HB.out, fun j y hj => by omega⟩
      case round =>
        clear HB HNO
        obtain ⟨k, hk, rfl, hbel, hno⟩ := hrel
        have HB := Lib.hid hbel; have HNO := Lib.hid hno
        clear hbel hno
        by_cases hlt : k < L.length
        · have hx : L[k]? = some L[k] := List.getElem?_eq_getElem hlt
          have hne : L ≠ [] := fun e => by rw [e] at hlt; simp at hlt
          have HM : Hid (L[k] ∈ L) := Lib.hid (List.getElem_mem hlt)
          obtain ⟨ao', cap', he, hc⟩ := HV.out.below HB.out
          obtain ⟨b, off, hb, hblt, hcc⟩ := hc hne
          injection he with he1 he2 he3
          rw [hb] at he1
          subst he1
          obtain ⟨hr, s0, s1, s2, e0, c0, c1, c2⟩ := hcc k _ hx
          have HX := Lib.hid hx
          generalize L[k] = y at *
          obtain ⟨vy, x, d⟩ := y
          have e0' : vy = .agg #[s0, s1, s2] := e0
          subst e0'
          have RD : Hid (∀ o, Calls Tryz.prog 50 #[.agg #[s0, s1, s2]] (wr.alloc o) fun e w' => ∃ v', e = .returned v' ∧ FrV w' v' x d ∧ Below (wr.alloc o).heap.size (wr.alloc o) w') := Lib.hid (fun o => rread_any _ x d _ (hr.below ((Below.refl _ _).alloc (Nat.le_refl _) o)))
          have HBA : Hid (∀ o, Below w.heap.size w (wr.alloc o)) := Lib.hid (fun o => HB.out.alloc HB.out.size o)
          obtain ⟨n, a, kk, c, a', k', c', xs, ys, ev, -⟩ := hr
          simp only [Value.agg.injEq, Array.mk.injEq, List.cons.injEq, and_true] at ev
          obtain ⟨rfl, rfl, rfl⟩ := ev
          obtain ⟨⟨p0, p1, p2⟩, _, _⟩ := blk3 (heap_alloc_new wr (Obj.cells #[.bool n, .slice a kk c, .slice a' k' c'] 27))
          clear hx hc hcc he2 he3 hne e0
          obtain ⟨r, hr⟩ : ∃ r, decide (BigR ≤ x.natAbs ∨ BigR ≤ d) = r := ⟨_, rfl⟩
          have HR := Lib.hid hr
          clear hr
          go_wp2_with fail
          refine (RD.out _).mono ?_
          rintro e w1 ⟨v', rfl, hf, hb1⟩
          have HB1 := Lib.hid (below_of (HBA.out _) hb1)
          have FL := Lib.hid (flong_any v' x d r w1 hf HR.out)
          clear hf hb1 p0 p1 p2
          cases r with
          | true =>
            have HL : Hid (rlong L) := Lib.hid ⟨_, HM.out, of_decide_eq_true (p := BigR ≤ x.natAbs ∨ BigR ≤ d) HR.out⟩
            go_wp2_with (go_at_call 91; refine FL.out.mono ?_; rintro e w2 ⟨rfl, hb2⟩; have HB2 := Lib.hid (below_of HB1.out hb2); clear hb2)
            go_ret
            exact ⟨_, rfl, .inr (.inl ⟨HNZ.out, HL.out, rfl⟩), HB2.out⟩
          | false =>
            have HN2 := Lib.hid (all_step' (P := fun y : Value × Int × Nat => ¬ rlong1 y) HNO.out HX.out (of_decide_eq_false (p := BigR ≤ x.natAbs ∨ BigR ≤ d) HR.out))
            go_wp2_with (go_at_call 91; refine FL.out.mono ?_; rintro e w2 ⟨rfl, hb2⟩; have HB2 := Lib.hid (below_of HB1.out hb2); clear hb2)
            go_roundw
            case rel => exact ⟨k + 1, by omega, by go_num, HB2.out, HN2.out⟩
            case measure => simp [intOf]; omega
        · obtain rfl : k = L.length := by omega
          have HNL : Hid (¬ rlong L) := Lib.hid (all_none (P := rlong1) HNO.out)
          go_wp2
          go_ret
          exact ⟨_, rfl, .inr (.inr ⟨HNZ.out, HNL.out, rfl⟩), HB.out⟩
end Go.Proofs.YthgmebnihpjnoaaGreatDoor

/- Package ratio: answer, turned, inverted. -/
namespace Go.Proofs.YthgmebnihpjnoaaGreatDoor
open Go.RowKit Mth

def zRat : Value := .agg #[.bool false, .slice none 0 0, .slice none 0 0]
/-- what answer says -/
def AnsO (w' : World) (base : Nat) (v' : Value) (E : Int) (x : Int) (d : Nat) : Prop :=
  (d = 0 ∧ E = 11 ∧ v' = zRat) ∨ (0 < d ∧ (BigR ≤ x.natAbs ∨ BigR ≤ d) ∧ E = 5 ∧ v' = zRat) ∨ (0 < d ∧ ¬ (BigR ≤ x.natAbs ∨ BigR ≤ d) ∧ E = 0 ∧ FrO w' base v' (lowN x d) (lowD x d))
theorem ral_of {W : World} {g : Nat} {L : List (Value × Int × Nat)} {cs : Array Value} {T : TypeId} (h : W.heap[g]? = some (.cells cs T (0, 0)))
    (hc : ∀ i y, L[i]? = some y → RatV W y.1 y.2.1 y.2.2 ∧ ∃ s0 s1 s2, y.1 = .agg #[s0, s1, s2] ∧ cs[i * 3]? = some s0 ∧ cs[i * 3 + 1]? = some s1 ∧ cs[i * 3 + 2]? = some s2) : RaL W (.slice (some ⟨g, 0, none⟩) L.length L.length) L := by
  refine ⟨_, _, rfl, fun _ => ⟨g, 0, rfl, (Array.getElem?_eq_some_iff.1 h).1, fun i y hy => ?_⟩⟩
  obtain ⟨hr, s0, s1, s2, e, c0, c1, c2⟩ := hc i y hy
  refine ⟨hr, s0, s1, s2, e, ?_, ?_, ?_⟩
  · rw [cell_of_row W g _ _ _ (0, 0) h, Nat.zero_add]; exact c0
  · rw [cell_of_row W g _ _ _ (0, 0) h, Nat.zero_add]; exact c1
  · rw [cell_of_row W g _ _ _ (0, 0) h, Nat.zero_add]; exact c2
theorem ral_one {W : World} {g : Nat} {s0 s1 s2 : Value} {x : Int} {d : Nat} {T : TypeId} (h : W.heap[g]? = some (.cells #[s0, s1, s2] T (0, 0))) (hr : RatV W (.agg #[s0, s1, s2]) x d) : RaL W (.slice (some ⟨g, 0, none⟩) 1 1) [(.agg #[s0, s1, s2], x, d)] :=
  ral_of (L := [(.agg #[s0, s1, s2], x, d)]) h (fun i y hy => by
    match i, hy with
    | 0, hy => obtain rfl := Option.some.inj hy; exact ⟨hr, _, _, _, rfl, rfl, rfl, rfl⟩
    | i + 1, hy => simp at hy)
theorem ral_two {W : World} {g : Nat} {s0 s1 s2 t0 t1 t2 : Value} {x y : Int} {d e : Nat} {T : TypeId} (h : W.heap[g]? = some (.cells #[s0, s1, s2, t0, t1, t2] T (0, 0))) (hr : RatV W (.agg #[s0, s1, s2]) x d) (ht : RatV W (.agg #[t0, t1, t2]) y e) :
    RaL W (.slice (some ⟨g, 0, none⟩) 2 2) [(.agg #[s0, s1, s2], x, d), (.agg #[t0, t1, t2], y, e)] :=
  ral_of (L := [(.agg #[s0, s1, s2], x, d), (.agg #[t0, t1, t2], y, e)]) h (fun i z hz => by
    match i, hz with
    | 0, hz => obtain rfl := Option.some.inj hz; exact ⟨hr, _, _, _, rfl, rfl, rfl, rfl⟩
    | 1, hz => obtain rfl := Option.some.inj hz; exact ⟨ht, _, _, _, rfl, rfl, rfl, rfl⟩
    | i + 2, hz => simp at hz)
theorem rzero_one {v : Value} {x : Int} {d : Nat} : rzero [(v, x, d)] ↔ d = 0 := by
  unfold rzero; simp
theorem rlong_one {v : Value} {x : Int} {d : Nat} : rlong [(v, x, d)] ↔ (BigR ≤ x.natAbs ∨ BigR ≤ d) := by
  unfold rlong rlong1; simp
set_option maxHeartbeats 4000000 in
set_option maxRecDepth 100000 in
theorem ranswer_any (v : Value) (x : Int) (d : Nat) (w : World) (h : RatV w v x d) : Calls Tryz.prog 38 #[v] w fun e w' => ∃ v' E, e = .returned (.tuple #[v', .int .i64 E]) ∧ AnsO w' w.heap.size v' E x d ∧ Below w.heap.size w w' := by
  have H := Lib.hid h
  obtain ⟨n, a, k, c, a', k', c', xs, ys, rfl, -⟩ := h
  obtain ⟨W2, eW2, h1, h2, b2, hz2⟩ := alloc2 w (Obj.cells #[.bool n, .slice a k c, .slice a' k' c'] 27) (Obj.cells #[.bool false, .slice none 0 0, .slice none 0 0] 27)
  have hs2 : W2.heap.size = w.heap.size + 1 + 1 := by rw [← eW2]; simp
  obtain ⟨W, eW, g1, bW, hzW⟩ := alloc1 W2 (Obj.cells #[.bool n, .slice a k c, .slice a' k' c'] 27)
  have HA := Lib.hid (blk_below' bW h1); have HR : Hid (W.heap[w.heap.size + 1]? = _) := Lib.hid (blk_below' bW h2)
  have BW := Lib.hid (below_of b2 bW)
  have CK := Lib.hid (check_any _ _ W (ral_one g1 (H.out.below BW.out)) (by simp))
  obtain ⟨⟨p0, p1, p2⟩, _, _⟩ := blk3 h1
  rw [hs2] at CK
  clear h1 h2 b2 g1 bW
  go_enter Tryz.func38, Tryz.ntmps38
  go_wp2_with fail
  refine CK.out.mono ?_
  rintro e w1 ⟨E, rfl, hE, b1⟩
  have A1 := Lib.hid (blk_below' b1 HA.out); have R1 := Lib.hid (blk_below' b1 HR.out); have B1 := Lib.hid (below_of BW.out b1)
  have hsz1 : w.heap.size + 1 + 1 < w1.heap.size := by have := b1.size; omega
  clear b1 p0 p1 p2 CK HA HR BW eW eW2 hzW hz2 hs2
  obtain ⟨⟨p0, p1, p2⟩, _, _⟩ := blk3 A1.out
  obtain ⟨⟨r0, r1, r2⟩, ⟨f0, f1, f2⟩, _⟩ := blk3 R1.out
  have hle : w.heap.size ≤ w.heap.size + 1 := Nat.le_succ _
  unfold ChkO at hE
  rw [rzero_one, rlong_one] at hE
  rcases hE with ⟨hd, rfl⟩ | ⟨hd, hl, rfl⟩ | ⟨hd, hl, rfl⟩
  · have HD := Lib.hid hd
    clear hd p0 p1 p2
    go_wp2
    refine bodyPost_ret (v := .tuple #[.agg #[.bool false, .slice none 0 0, .slice none 0 0], .int .i64 11]) ?_ rfl ⟨_, _, rfl, .inl ⟨HD.out, rfl, rfl⟩, ((B1.out.setCell (p := ⟨w.heap.size + 1, 0, none⟩) hle _).setCell (p := ⟨w.heap.size + 1, 1, none⟩) hle _).setCell (p := ⟨w.heap.size + 1, 2, none⟩) hle _⟩
    simp [results, Tryz.results38, go_sem, *]
  · have HD : Hid (0 < d) := Lib.hid (Nat.pos_of_ne_zero hd)
    have HL := Lib.hid hl
    clear hd hl p0 p1 p2
    go_wp2
    refine bodyPost_ret (v := .tuple #[.agg #[.bool false, .slice none 0 0, .slice none 0 0], .int .i64 5]) ?_ rfl ⟨_, _, rfl, .inr (.inl ⟨HD.out, HL.out, rfl, rfl⟩), ((B1.out.setCell (p := ⟨w.heap.size + 1, 0, none⟩) hle _).setCell (p := ⟨w.heap.size + 1, 1, none⟩) hle _).setCell (p := ⟨w.heap.size + 1, 2, none⟩) hle _⟩
    simp [results, Tryz.results38, go_sem, *]
  · have HD : Hid (0 < d) := Lib.hid (Nat.pos_of_ne_zero hd)
    have HL := Lib.hid hl
    have HXB : Hid (x.natAbs < Big ∧ d < Big) := Lib.hid ⟨bigR_lt (by omega), bigR_lt (by omega)⟩
    have RD := Lib.hid (rread_any _ x d w1 (H.out.below B1.out))
    clear hd hl r0 r1 r2 f0 f1 f2
    go_wp2_with fail
    refine RD.out.mono ?_
    rintro e w2 ⟨vf, rfl, hf, b2⟩
    have R2 := Lib.hid (blk_below' b2 R1.out); have B2 := Lib.hid (below_of B1.out b2)
    have LW := Lib.hid (lowest_any vf x d w2 hf HXB.out.1 HXB.out.2 HD.out)
    have hsz2 := b2.size
    clear hf b2 p0 p1 p2 RD
    go_wp2_with fail
    refine LW.out.mono ?_
    rintro e w3 ⟨vl, rfl, hf, b3⟩
    have R3 := Lib.hid (blk_below' b3 R2.out); have B3 := Lib.hid (below_of B2.out b3)
    obtain ⟨a1, k1, c1, a2, k2, c2, rfl, o1, o2⟩ := hf
    have O1 := Lib.hid o1; have O2 := Lib.hid o2
    have RT := Lib.hid (rat_is (sgn (lowN x d)) a1 k1 c1 a2 k2 c2 w3)
    clear b3 o1 o2 LW
    go_wp2_with fail
    refine RT.out.mono ?_
    rintro e w4 ⟨rfl, b4⟩
    have R4 := Lib.hid (blk_below' b4 R3.out); have B4 := Lib.hid (below_of B3.out b4)
    have P1 := Lib.hid (O1.out.below b4); have P2 := Lib.hid (O2.out.below b4)
    obtain ⟨⟨r0, r1, r2⟩, ⟨f0, f1, f2⟩, _⟩ := blk3 R4.out
    have hR : w.heap.size + 1 < w2.heap.size := by omega
    have hbase : w.heap.size ≤ w2.heap.size := by omega
    clear b4 RT hsz1 hsz2
    go_wp2
    refine bodyPost_ret (v := .tuple #[.agg #[.bool (sgn (lowN x d)), .slice a1 k1 c1, .slice a2 k2 c2], .int .i64 0]) ?_ rfl ⟨_, _, rfl, .inr (.inr ⟨HD.out, HL.out, rfl, ⟨a1, k1, c1, a2, k2, c2, rfl, (ow_far3 P1.out hR).mono hbase, (ow_far3 P2.out hR).mono hbase⟩⟩), ((B4.out.setCell (p := ⟨w.heap.size + 1, 0, none⟩) hle _).setCell (p := ⟨w.heap.size + 1, 1, none⟩) hle _).setCell (p := ⟨w.heap.size + 1, 2, none⟩) hle _⟩
    simp [results, Tryz.results38, go_sem, *]
theorem sg_not (n : Bool) (m : Nat) : sg (!n) m = -(sg n m) := by cases n <;> simp [sg]
set_option maxHeartbeats 2000000 in
set_option maxRecDepth 100000 in
theorem rturned_any (v : Value) (x : Int) (d : Nat) (w : World) (h : RatV w v x d) : Calls Tryz.prog 56 #[v] w fun e w' => ∃ v', e = .returned v' ∧ RatV w' v' (-x) d ∧ Below w.heap.size w w' := by
  obtain ⟨n, a, k, c, a', k', c', xs, ys, rfl, hs, hl, hxl, rfl, hs', hl', hyl, rfl⟩ := h
  obtain ⟨W, eW, h1, h2, bW, hz⟩ := alloc2 w (Obj.cells #[.bool n, .slice a k c, .slice a' k' c'] 27) (Obj.cells #[.bool false, .slice none 0 0, .slice none 0 0] 27)
  have HW : Hid (∀ W', Below w.heap.size w W' → RatV W' (.agg #[.bool (!n), .slice a k c, .slice a' k' c']) (-(sg n (val B64 xs))) (val B64 ys)) := Lib.hid (fun W' hb => ⟨!n, a, k, c, a', k', c', xs, ys, rfl, hs.below hb, hl, hxl, (sg_not n _).symm, hs'.below hb, hl', hyl, rfl⟩)
  have BW := Lib.hid bW
  obtain ⟨⟨p0, p1, p2⟩, _, _⟩ := blk3 h1
  obtain ⟨⟨r0, r1, r2⟩, ⟨f0, f1, f2⟩, _⟩ := blk3 h2
  have hle : w.heap.size ≤ w.heap.size + 1 := Nat.le_succ _
  clear hs hl hxl hs' hl' hyl h1 h2 bW
  go_enter Tryz.func56, Tryz.ntmps56
  go_wp2
  refine bodyPost_ret (v := .agg #[.bool (!n), .slice a k c, .slice a' k' c']) ?_ rfl ⟨_, rfl, HW.out _ ?_, ?_⟩
  · simp [results, Tryz.results56, go_sem, *]
  all_goals exact ((BW.out.setCell (p := ⟨w.heap.size + 1, 0, none⟩) hle _).setCell (p := ⟨w.heap.size + 1, 1, none⟩) hle _).setCell (p := ⟨w.heap.size + 1, 2, none⟩) hle _
end Go.Proofs.YthgmebnihpjnoaaGreatDoor

/- Package ratio: gather (written by genrs.py). -/
namespace Go.Proofs.YthgmebnihpjnoaaGreatDoor
open Go.RowKit Mth

/-- one step: the next sum or product, in lowest terms -/
def stepQ (mul : Bool) (s : Int × Nat) (y : Value × Int × Nat) : Int × Nat := match mul with
  | false => (lowN (s.1 * y.2.2 + y.2.1 * s.2) (s.2 * y.2.2), lowD (s.1 * y.2.2 + y.2.1 * s.2) (s.2 * y.2.2))
  | true => (lowN (s.1 * y.2.1) (s.2 * y.2.2), lowD (s.1 * y.2.1) (s.2 * y.2.2))
def longQ (s : Int × Nat) : Prop := BigR ≤ s.1.natAbs ∨ BigR ≤ s.2
open Classical in
noncomputable def foldQ (mul : Bool) : Int × Nat → List (Value × Int × Nat) → Option (Int × Nat)
  | s, [] => some s
  | s, y :: r => if longQ (stepQ mul s y) then none else foldQ mul (stepQ mul s y) r
theorem fold_yes {mul : Bool} {s : Int × Nat} {y : Value × Int × Nat} {r : List (Value × Int × Nat)} (h : longQ (stepQ mul s y)) : foldQ mul s (y :: r) = none := by rw [foldQ, if_pos h]
theorem fold_no {mul : Bool} {s : Int × Nat} {y : Value × Int × Nat} {r : List (Value × Int × Nat)} (h : ¬ longQ (stepQ mul s y)) : foldQ mul s (y :: r) = foldQ mul (stepQ mul s y) r := by rw [foldQ, if_neg h]
/-- what gather says -/
def GatO (mul : Bool) (s : Int × Nat) (L : List (Value × Int × Nat)) (w' : World) (v' : Value) (E : Int) : Prop :=
  (rzero L ∧ E = 11 ∧ v' = zRat) ∨ (¬ rzero L ∧ (rlong L ∨ foldQ mul s L = none) ∧ E = 5 ∧ v' = zRat) ∨ (¬ rzero L ∧ ¬ rlong L ∧ ∃ x d, foldQ mul s L = some (x, d) ∧ E = 0 ∧ FrV w' v' x d)
theorem bigR_two : 2 ≤ BigR := by
  have h : B64 ^ 1 ≤ B64 ^ maxR := Nat.pow_le_pow_right (by decide) (by unfold maxR; omega)
  rw [← bigR_eq, Nat.pow_one] at h
  have : 2 ≤ B64 := by decide
  omega
theorem small_long {x : Int} {d : Nat} (h : x.natAbs < 2) (h2 : d < 2) : ¬ longQ (x, d) := by
  have := bigR_two
  unfold longQ
  show ¬ (BigR ≤ x.natAbs ∨ BigR ≤ d)
  omega
/-- where gather is -/
def GaR (mul : Bool) (s : Int × Nat) (w w3 wr : World) (L : List (Value × Int × Nat)) (i : Value) : Prop := ∃ (k : Nat) (x : Int) (d : Nat) (s0 s1 s2 : Value), k ≤ L.length ∧ i = .int .i64 (k : Int) ∧ wr.heap[w3.heap.size]? = some (.cells #[s0, s1, s2] 84 (0, 0)) ∧ FrV wr (.agg #[s0, s1, s2]) x d ∧ Below w.heap.size w wr ∧
  wr.heap[w.heap.size]? = some (.cells #[.bool false, .slice none 0 0, .slice none 0 0] 27 (0, 0)) ∧ foldQ mul s L = foldQ mul (x, d) (L.drop k) ∧ ¬ longQ (x, d) ∧ 0 < d
theorem Num.far3 {w : World} {v y0 y1 y2 : Value} {n R : Nat} {T : TypeId} {x : Bool} {ao ao' : Option Addr} {k c k' c' : Nat} (h : Num w v n) (hR : w.heap[R]? = some (.cells #[.bool x, .slice ao k c, .slice ao' k' c'] T (0, 0))) : Num (((w.setCell ⟨R, 0, none⟩ y0).setCell ⟨R, 1, none⟩ y1).setCell ⟨R, 2, none⟩ y2) v n := by
  obtain ⟨ys, h1, h2⟩ := h
  have hne : ∀ b off cap, v = .slice (some ⟨b, off, none⟩) ys.length cap → 0 < ys.length → b ≠ R := fun b off cap e hp => h1.ne3 hR e hp
  exact ⟨ys, ((h1.set_far hne).set_far hne).set_far hne, h2⟩
theorem FrV.far3 {w : World} {v y0 y1 y2 : Value} {z : Int} {d R : Nat} {T : TypeId} {x : Bool} {ao ao' : Option Addr} {k c k' c' : Nat} (h : FrV w v z d) (hR : w.heap[R]? = some (.cells #[.bool x, .slice ao k c, .slice ao' k' c'] T (0, 0))) : FrV (((w.setCell ⟨R, 0, none⟩ y0).setCell ⟨R, 1, none⟩ y1).setCell ⟨R, 2, none⟩ y2) v z d := by
  obtain ⟨a, k1, c1, a', k2, c2, e, h1, h2⟩ := h
  exact ⟨a, k1, c1, a', k2, c2, e, h1.far3 hR, h2.far3 hR⟩
theorem num_shape {w : World} {v : Value} {n : Nat} (h : Num w v n) : ∃ ao k c, v = .slice ao k c := by
  obtain ⟨ys, hs, _⟩ := h
  obtain ⟨ao, c, e⟩ := hs.shape
  exact ⟨ao, _, c, e⟩
theorem mulR {a b : Nat} (ha : a < BigR) (hb : b < BigR) : a * b < Big := by
  have h1 := bigR_big; have h2 := bigR_pos
  have h3 : a * b ≤ BigR * BigR := Nat.mul_le_mul (Nat.le_of_lt ha) (Nat.le_of_lt hb)
  have h4 : 0 < BigR * BigR := Nat.mul_pos h2 h2
  omega
set_option maxHeartbeats 8000000 in
set_option maxRecDepth 100000 in
theorem gatherP_any (L : List (Value × Int × Nat)) (v : Value) (w : World) (hv : RaL w v L) (hlen : L.length ≤ 1048576) :
    Calls Tryz.prog 64 #[v, .int .i64 0, .func (.func 83) #[] #[]] w fun e w' => ∃ v' E, e = .returned (.tuple #[v', .int .i64 E]) ∧ GatO false (0, 1) L w' v' E ∧ Below w.heap.size w w' := by
  have HV := Lib.hid hv
  obtain ⟨W, eW, h1, bW, hzW⟩ := alloc1 w (Obj.cells #[.bool false, .slice none 0 0, .slice none 0 0] 27)
  have HR := Lib.hid h1; have BW := Lib.hid bW
  have CK := Lib.hid (check_any L v W (hv.below bW) hlen)
  obtain ⟨ao, cap, rfl, _⟩ := hv
  clear h1 bW
  go_enter Tryz.func64, Tryz.ntmps64
  go_wp2_with fail
  refine CK.out.mono ?_
  rintro e w1 ⟨E, rfl, hE, b1⟩
  have R1 := Lib.hid (blk_below' b1 HR.out); have B1 := Lib.hid (below_of BW.out b1)
  have hsz1 : w.heap.size < w1.heap.size := by have := b1.size; omega
  clear b1 CK HR BW eW hzW
  obtain ⟨⟨r0, r1, r2⟩, ⟨f0, f1, f2⟩, _⟩ := blk3 R1.out
  have hle : w.heap.size ≤ w.heap.size := Nat.le_refl _
  rcases hE with ⟨hd, rfl⟩ | ⟨hd, hl, rfl⟩ | ⟨hd, hl, rfl⟩
  · have HD := Lib.hid hd
    clear hd
    go_wp2
    refine bodyPost_ret (v := .tuple #[.agg #[.bool false, .slice none 0 0, .slice none 0 0], .int .i64 11]) ?_ rfl ⟨_, _, rfl, .inl ⟨HD.out, rfl, rfl⟩, ((B1.out.setCell (p := ⟨w.heap.size, 0, none⟩) hle _).setCell (p := ⟨w.heap.size, 1, none⟩) hle _).setCell (p := ⟨w.heap.size, 2, none⟩) hle _⟩
    simp [results, Tryz.results64, go_sem, *]
  · have HD := Lib.hid hd; have HL := Lib.hid hl
    clear hd hl
    go_wp2
    refine bodyPost_ret (v := .tuple #[.agg #[.bool false, .slice none 0 0, .slice none 0 0], .int .i64 5]) ?_ rfl ⟨_, _, rfl, .inr (.inl ⟨HD.out, .inl HL.out, rfl, rfl⟩), ((B1.out.setCell (p := ⟨w.heap.size, 0, none⟩) hle _).setCell (p := ⟨w.heap.size, 1, none⟩) hle _).setCell (p := ⟨w.heap.size, 2, none⟩) hle _⟩
    simp [results, Tryz.results64, go_sem, *]
  · have HD := Lib.hid hd; have HL := Lib.hid hl
    have OI : Hid (Calls Tryz.prog 42 #[.int .i64 0] w1 fun e w' => Res0 w1 w' e 0) := Lib.hid (ofF 0 w1 (by decide) (by decide))
    clear hd hl r0 r1 r2 f0 f1 f2
    go_wp2_with fail
    refine OI.out.mono ?_
    rintro e w2 ⟨n1, a1, k1, c1, rfl, hz, b2⟩
    have R2 := Lib.hid (blk_below' b2 R1.out); have B2 := Lib.hid (below_of B1.out b2)
    have HZ := Lib.hid hz
    have ON : Hid (Calls Tryz.prog 85 #[.int .u64 1] w2 fun e w' => ∃ v', e = .returned v' ∧ Below w2.heap.size w2 w' ∧ Num w' v' 1) := Lib.hid (of_any 1 (by decide) w2)
    have hsz2 : w.heap.size < w2.heap.size := by have := b2.size; omega
    clear hz b2 OI
    go_wp2_with fail
    refine ON.out.mono ?_
    rintro e w3 ⟨v3, rfl, b3, ho⟩
    obtain ⟨a2, k2, c2, rfl⟩ := num_shape ho
    have R3 := Lib.hid (blk_below' b3 R2.out); have B3 := Lib.hid (below_of B2.out b3)
    have hn1 := (HZ.out.num).1
    subst hn1
    have F0 : Hid (FrV w3 (.agg #[.bool (sgn 0), .slice a1 k1 c1, .slice a2 k2 c2]) 0 1) := Lib.hid ⟨_, _, _, _, _, _, rfl, (HZ.out.num).2.below' b3, ho⟩
    have hsz3 : w.heap.size < w3.heap.size := by have := b3.size; omega
    clear ho b3 ON HZ
    go_wp2
    go_loopw [11, 24] (fun _ i wr => GaR false (0, 1) w w3 wr L i) (fun _ i _ => L.length - (intOf i).toNat)
    case atStart =>
      have hb := (Below.refl w3.heap.size w3).alloc (Nat.le_refl _) (Obj.cells #[.bool (sgn 0), .slice a1 k1 c1, .slice a2 k2 c2] 84)
      exact ⟨0, 0, 1, _, _, _, Nat.zero_le _, rfl, heap_alloc_new w3 _, F0.out.below hb, B3.out.alloc B3.out.size _, blk_below' hb R3.out, rfl, small_long (by decide) (by decide), Nat.one_pos⟩
    case round =>
      obtain ⟨k, x, d, s0, s1, s2, hk, rfl, h9, hf, hbel, h6, hfo, hnl, hd0⟩ := hrel
      have H9 := Lib.hid h9; have HF := Lib.hid hf; have HB := Lib.hid hbel; have H6 := Lib.hid h6; have HFO := Lib.hid hfo; have HNL := Lib.hid hnl; have HD0 := Lib.hid hd0
      obtain ⟨aa, ka, ca, ab, kb, cb', ev, -⟩ := hf
      simp only [Value.agg.injEq, Array.mk.injEq, List.cons.injEq, and_true] at ev
      obtain ⟨rfl, rfl, rfl⟩ := ev
      have hlt9 := (Array.getElem?_eq_some_iff.1 h9).1
      clear h9 hbel h6 hfo hnl hd0
      by_cases hlt : k < L.length
      · have hx : L[k]? = some L[k] := List.getElem?_eq_getElem hlt
        have hne : L ≠ [] := fun e => by rw [e] at hlt; simp at hlt
        have HM : Hid (L[k] ∈ L) := Lib.hid (List.getElem_mem hlt)
        have HDR : Hid (L.drop k = L[k] :: L.drop (k + 1)) := Lib.hid (List.drop_eq_getElem_cons hlt)
        obtain ⟨ao', cap', he, hc⟩ := HV.out.below HB.out
        obtain ⟨b, off, hb, hblt, hcc⟩ := hc hne
        injection he with he1 he2 he3
        rw [hb] at he1
        subst he1
        obtain ⟨hr, t0, t1, t2, e0, c0, c1', c2'⟩ := hcc k _ hx
        generalize L[k] = y at *
        obtain ⟨vy, x2, d2⟩ := y
        have e0' : vy = .agg #[t0, t1, t2] := e0
        subst e0'
        have HYZ : Hid (0 < d2 ∧ x2.natAbs < BigR ∧ d2 < BigR) := Lib.hid (by
          refine ⟨Nat.pos_of_ne_zero (fun e => HD.out ⟨_, HM.out, e⟩), ?_⟩
          have : ¬ (BigR ≤ x2.natAbs ∨ BigR ≤ d2) := fun e => HL.out ⟨_, HM.out, e⟩
          omega)
        have HRY := Lib.hid hr
        obtain ⟨n, a, kk, c, a', k', c', xs, ys, ev, -⟩ := hr
        simp only [Value.agg.injEq, Array.mk.injEq, List.cons.injEq, and_true] at ev
        obtain ⟨rfl, rfl, rfl⟩ := ev
        obtain ⟨V, eV, g1, bV, hzV⟩ := alloc1 wr (Obj.cells #[.bool n, .slice a kk c, .slice a' k' c'] 27)
        have V9 := Lib.hid (blk_below' bV H9.out); have V6 := Lib.hid (blk_below' bV H6.out); have VB := Lib.hid (below_of HB.out bV); have VF := Lib.hid (HF.out.below bV)
        have RD : Hid (∀ u, Below V.heap.size V u → Calls Tryz.prog 50 #[.agg #[.bool n, .slice a kk c, .slice a' k' c']] u fun e w' => ∃ v', e = .returned v' ∧ FrV w' v' x2 d2 ∧ Below u.heap.size u w') := Lib.hid (fun u hu => rread_any _ x2 d2 u ((HRY.out.below bV).below hu))
        have JN : Hid (∀ u vb, Below V.heap.size V u → FrV u vb x2 d2 → Calls Tryz.prog 83 #[.agg #[.bool (sgn x), .slice aa ka ca, .slice ab kb cb'], vb] u fun e w' => ∃ v', e = .returned v' ∧ FrV w' v' (x * (d2 : Int) + x2 * (d : Int)) (d * d2) ∧ Below u.heap.size u w') := Lib.hid (fun u vb hu hb => by
          have hn := HNL.out
          unfold longQ at hn
          have hy := HYZ.out
          have ft := fits_of (x1 := x) (x2 := x2) (d1 := d) (d2 := d2) (by omega) (by omega) (by omega) (by omega)
          exact fplus_any _ vb x x2 d d2 u (VF.out.below hu) hb (bigR_lt (by omega)) (bigR_lt (by omega)) (bigR_lt (by omega)) (bigR_lt (by omega)) ft.a ft.b ft.s (mulR (by omega) (by omega)))
        have SZ : Hid ((x * (d2 : Int) + x2 * (d : Int)).natAbs < Big ∧ d * d2 < Big ∧ 0 < d * d2) := Lib.hid (by
          have hn := HNL.out
          unfold longQ at hn
          have hy := HYZ.out
          have hd0 := HD0.out
          have ft := fits_of (x1 := x) (x2 := x2) (d1 := d) (d2 := d2) (by omega) (by omega) (by omega) (by omega)
          exact ⟨ft.s, mulR (by omega) (by omega), Nat.mul_pos hd0 hy.1⟩)
        have LW : Hid (∀ u vb, FrV u vb (x * (d2 : Int) + x2 * (d : Int)) (d * d2) → Calls Tryz.prog 72 #[vb] u fun e w' => ∃ v', e = .returned v' ∧ FrO w' u.heap.size v' (lowN (x * (d2 : Int) + x2 * (d : Int)) (d * d2)) (lowD (x * (d2 : Int) + x2 * (d : Int)) (d * d2)) ∧ Below u.heap.size u w') := Lib.hid (fun u vb h => lowest_any vb _ _ u h SZ.out.1 SZ.out.2.1 SZ.out.2.2)
        have QS : Hid (stepQ false (x, d) (Value.agg #[.bool n, .slice a kk c, .slice a' k' c'], x2, d2) = (lowN (x * (d2 : Int) + x2 * (d : Int)) (d * d2), lowD (x * (d2 : Int) + x2 * (d : Int)) (d * d2))) := Lib.hid rfl
        have HDP : Hid (0 < lowD (x * (d2 : Int) + x2 * (d : Int)) (d * d2)) := Lib.hid (lowD_pos SZ.out.2.2)
        generalize (x * (d2 : Int) + x2 * (d : Int)) = XX at *
        generalize (d * d2) = DD at *
        generalize lowN XX DD = lx at *
        generalize lowD XX DD = ld at *
        obtain ⟨⟨p0, p1, p2⟩, _, lp⟩ := blk3 g1
        obtain ⟨⟨q0, q1, q2⟩, ⟨y0, y1, y2⟩, lq⟩ := blk3 V9.out
        have hq9 : w3.heap.size < V.heap.size := lq
        have hB0 := (Below.refl V.heap.size V).drew
        clear hx hc hcc he2 he3 hne e0 g1 bV hzV
        go_wp2_with fail
        try rw [eV]
        clear eV
        go_region_with (first
          | (go_at_call 50; refine Calls.mono (RD.out _ (by first | exact Below.refl _ _ | exact (Below.refl _ _).drew | exact (Below.refl _ _).drew.drew)) ?_; rintro e wA ⟨vA, rfl, hfA, hbA⟩; have BA := Lib.hid (below_of (w := V) (by first | exact Below.refl _ _ | exact (Below.refl _ _).drew | exact (Below.refl _ _).drew.drew) hbA); have FA := Lib.hid hfA; have u0 := cell_to BA.out q0 lq; have u1 := cell_to BA.out q1 lq; have u2 := cell_to BA.out q2 lq; clear hfA hbA)
          | (go_at_call 83; refine Calls.mono (JN.out _ _ (by first | exact BA.out | exact BA.out.drew) (by first | exact FA.out | exact FA.out.below ((Below.refl _ _).drew))) ?_; rintro e wB ⟨vB, rfl, hfB, hbB⟩; have BB := Lib.hid (below_of (w := V) (by first | exact BA.out | exact BA.out.drew) hbB); have FB := Lib.hid hfB; clear hfB hbB)
          | (go_at_call 72; refine Calls.mono (LW.out _ _ (by first | exact FB.out | exact FB.out.below ((Below.refl _ _).drew))) ?_; rintro e wC ⟨vC, rfl, hfC, hbC⟩; have BC := Lib.hid (below_of (w := V) (by first | exact BB.out | exact BB.out.drew) hbC); have hszC : w3.heap.size < wB.heap.size := size_to BB.out hq9; obtain ⟨aC, kC, cC, aD, kD, cD, rfl, o1, o2⟩ := hfC; have O1 := Lib.hid o1; have O2 := Lib.hid o2; have C9 := Lib.hid (blk_below' BC.out V9.out); have C6 := Lib.hid (blk_below' BC.out V6.out); have BWC := Lib.hid (below_of VB.out BC.out); obtain ⟨⟨z0, z1, z2⟩, ⟨x0, x1, x2'⟩, _⟩ := blk3 C9.out; clear o1 o2 hbC))
        all_goals
          have h9' := heap_setCell_same _ _ 2 _ _ (.slice aD kD cD) (heap_setCell_same _ _ 1 _ _ (.slice aC kC cC) (heap_setCell_same _ _ 0 _ _ (.bool (sgn lx)) C9.out))
          have ne6 : w.heap.size ≠ w3.heap.size := by omega
          have hle9 : w.heap.size ≤ w3.heap.size := by omega
          have h6' : ((((wC.setCell ⟨w3.heap.size, 0, none⟩ (.bool (sgn lx))).setCell ⟨w3.heap.size, 1, none⟩ (.slice aC kC cC)).setCell ⟨w3.heap.size, 2, none⟩ (.slice aD kD cD))).heap[w.heap.size]? = some (.cells #[.bool false, .slice none 0 0, .slice none 0 0] 27 (0, 0)) := by
            rw [heap_setCell_other _ ⟨w3.heap.size, 2, none⟩ w.heap.size _ ne6, heap_setCell_other _ ⟨w3.heap.size, 1, none⟩ w.heap.size _ ne6, heap_setCell_other _ ⟨w3.heap.size, 0, none⟩ w.heap.size _ ne6]
            exact C6.out
          have FN := FrO.fr ⟨aC, kC, cC, aD, kD, cD, rfl, ow_far3 (y0 := .bool (sgn lx)) (y1 := .slice aC kC cC) (y2 := .slice aD kD cD) O1.out hszC, ow_far3 (y0 := .bool (sgn lx)) (y1 := .slice aC kC cC) (y2 := .slice aD kD cD) O2.out hszC⟩
          have BN := ((BWC.out.setCell (p := ⟨w3.heap.size, 0, none⟩) hle9 (.bool (sgn lx))).setCell (p := ⟨w3.heap.size, 1, none⟩) hle9 (.slice aC kC cC)).setCell (p := ⟨w3.heap.size, 2, none⟩) hle9 (.slice aD kD cD)
          have h9x : ((((wC.setCell ⟨w3.heap.size, 0, none⟩ (.bool (sgn lx))).setCell ⟨w3.heap.size, 1, none⟩ (.slice aC kC cC)).setCell ⟨w3.heap.size, 2, none⟩ (.slice aD kD cD))).heap[w3.heap.size]? = some (.cells #[.bool (sgn lx), .slice aC kC cC, .slice aD kD cD] 84 (0, 0)) := h9'
          go_wp2_with fail
          generalize ((((wC.setCell ⟨w3.heap.size, 0, none⟩ (.bool (sgn lx))).setCell ⟨w3.heap.size, 1, none⟩ (.slice aC kC cC)).setCell ⟨w3.heap.size, 2, none⟩ (.slice aD kD cD))) = U at *
          obtain ⟨r, hr⟩ : ∃ r, decide (BigR ≤ lx.natAbs ∨ BigR ≤ ld) = r := ⟨_, rfl⟩
          have HRR := Lib.hid hr
          have H9X := Lib.hid h9x; have H6X := Lib.hid h6'; have FNX := Lib.hid FN; have BNX := Lib.hid BN
          clear hr h9' h9x h6' FN BN z0 z1 z2 x0 x1 x2' q0 q1 q2 y0 y1 y2 p0 p1 p2 u0 u1 u2 hB0
          refine Calls.mono (flong_any _ lx ld r U FNX.out HRR.out) ?_
          rintro e w5 ⟨rfl, b5⟩
          have R5 := Lib.hid (blk_below' b5 H6X.out); have N5 := Lib.hid (blk_below' b5 H9X.out); have B5 := Lib.hid (below_of BNX.out b5); have F5 := Lib.hid (FNX.out.below b5)
          clear b5
          cases r with
          | true =>
            have HNone : Hid (foldQ false (0, 1) L = none) := Lib.hid (by
              rw [HFO.out, HDR.out]
              exact fold_yes (by rw [QS.out]; exact of_decide_eq_true (p := BigR ≤ lx.natAbs ∨ BigR ≤ ld) HRR.out))
            obtain ⟨⟨r0, r1, r2⟩, ⟨f0, f1, f2⟩, _⟩ := blk3 R5.out
            go_wp2
            refine bodyPost_ret (v := .tuple #[.agg #[.bool false, .slice none 0 0, .slice none 0 0], .int .i64 5]) ?_ rfl ⟨_, _, rfl, .inr (.inl ⟨HD.out, .inr HNone.out, rfl, rfl⟩), ((B5.out.setCell (p := ⟨w.heap.size, 0, none⟩) hle _).setCell (p := ⟨w.heap.size, 1, none⟩) hle _).setCell (p := ⟨w.heap.size, 2, none⟩) hle _⟩
            simp [results, Tryz.results64, go_sem, *]
          | false =>
            have HNL2 : Hid (¬ longQ (lx, ld)) := Lib.hid (of_decide_eq_false (p := BigR ≤ lx.natAbs ∨ BigR ≤ ld) HRR.out)
            have HFO2 : Hid (foldQ false (0, 1) L = foldQ false (lx, ld) (L.drop (k + 1))) := Lib.hid (by
              rw [HFO.out, HDR.out, fold_no (by rw [QS.out]; exact HNL2.out), QS.out])
            go_wp2
            go_roundw
            case rel => exact ⟨k + 1, lx, ld, _, _, _, by omega, by go_num, N5.out, F5.out, B5.out, R5.out, HFO2.out, HNL2.out, HDP.out⟩
            case measure => simp [intOf]; omega
      · obtain rfl : k = L.length := by omega
        have HFS : Hid (foldQ false (0, 1) L = some (x, d)) := Lib.hid (by rw [HFO.out, List.drop_length]; rfl)
        obtain ⟨⟨q0, q1, q2⟩, _, _⟩ := blk3 H9.out
        have RT := Lib.hid (rat_is (sgn x) aa ka ca ab kb cb' wr)
        go_wp2_with fail
        refine RT.out.mono ?_
        rintro e w5 ⟨rfl, b5⟩
        have R5 := Lib.hid (blk_below' b5 H6.out); have B5 := Lib.hid (below_of HB.out b5); have F5 := Lib.hid (HF.out.below b5)
        obtain ⟨⟨r0, r1, r2⟩, ⟨f0, f1, f2⟩, _⟩ := blk3 R5.out
        clear b5 RT q0 q1 q2
        go_wp2
        refine bodyPost_ret (v := .tuple #[.agg #[.bool (sgn x), .slice aa ka ca, .slice ab kb cb'], .int .i64 0]) ?_ rfl ⟨_, _, rfl, .inr (.inr ⟨HD.out, HL.out, x, d, HFS.out, rfl, F5.out.far3 R5.out⟩), ((B5.out.setCell (p := ⟨w.heap.size, 0, none⟩) hle _).setCell (p := ⟨w.heap.size, 1, none⟩) hle _).setCell (p := ⟨w.heap.size, 2, none⟩) hle _⟩
        simp [results, Tryz.results64, go_sem, *]
set_option maxHeartbeats 8000000 in
set_option maxRecDepth 100000 in
theorem gatherB_any (L : List (Value × Int × Nat)) (v : Value) (w : World) (hv : RaL w v L) (hlen : L.length ≤ 1048576) :
    Calls Tryz.prog 64 #[v, .int .i64 1, .func (.func 65) #[] #[]] w fun e w' => ∃ v' E, e = .returned (.tuple #[v', .int .i64 E]) ∧ GatO true (1, 1) L w' v' E ∧ Below w.heap.size w w' := by
  have HV := Lib.hid hv
  obtain ⟨W, eW, h1, bW, hzW⟩ := alloc1 w (Obj.cells #[.bool false, .slice none 0 0, .slice none 0 0] 27)
  have HR := Lib.hid h1; have BW := Lib.hid bW
  have CK := Lib.hid (check_any L v W (hv.below bW) hlen)
  obtain ⟨ao, cap, rfl, _⟩ := hv
  clear h1 bW
  go_enter Tryz.func64, Tryz.ntmps64
  go_wp2_with fail
  refine CK.out.mono ?_
  rintro e w1 ⟨E, rfl, hE, b1⟩
  have R1 := Lib.hid (blk_below' b1 HR.out); have B1 := Lib.hid (below_of BW.out b1)
  have hsz1 : w.heap.size < w1.heap.size := by have := b1.size; omega
  clear b1 CK HR BW eW hzW
  obtain ⟨⟨r0, r1, r2⟩, ⟨f0, f1, f2⟩, _⟩ := blk3 R1.out
  have hle : w.heap.size ≤ w.heap.size := Nat.le_refl _
  rcases hE with ⟨hd, rfl⟩ | ⟨hd, hl, rfl⟩ | ⟨hd, hl, rfl⟩
  · have HD := Lib.hid hd
    clear hd
    go_wp2
    refine bodyPost_ret (v := .tuple #[.agg #[.bool false, .slice none 0 0, .slice none 0 0], .int .i64 11]) ?_ rfl ⟨_, _, rfl, .inl ⟨HD.out, rfl, rfl⟩, ((B1.out.setCell (p := ⟨w.heap.size, 0, none⟩) hle _).setCell (p := ⟨w.heap.size, 1, none⟩) hle _).setCell (p := ⟨w.heap.size, 2, none⟩) hle _⟩
    simp [results, Tryz.results64, go_sem, *]
  · have HD := Lib.hid hd; have HL := Lib.hid hl
    clear hd hl
    go_wp2
    refine bodyPost_ret (v := .tuple #[.agg #[.bool false, .slice none 0 0, .slice none 0 0], .int .i64 5]) ?_ rfl ⟨_, _, rfl, .inr (.inl ⟨HD.out, .inl HL.out, rfl, rfl⟩), ((B1.out.setCell (p := ⟨w.heap.size, 0, none⟩) hle _).setCell (p := ⟨w.heap.size, 1, none⟩) hle _).setCell (p := ⟨w.heap.size, 2, none⟩) hle _⟩
    simp [results, Tryz.results64, go_sem, *]
  · have HD := Lib.hid hd; have HL := Lib.hid hl
    have OI : Hid (Calls Tryz.prog 42 #[.int .i64 1] w1 fun e w' => Res0 w1 w' e 1) := Lib.hid (ofF 1 w1 (by decide) (by decide))
    clear hd hl r0 r1 r2 f0 f1 f2
    go_wp2_with fail
    refine OI.out.mono ?_
    rintro e w2 ⟨n1, a1, k1, c1, rfl, hz, b2⟩
    have R2 := Lib.hid (blk_below' b2 R1.out); have B2 := Lib.hid (below_of B1.out b2)
    have HZ := Lib.hid hz
    have ON : Hid (Calls Tryz.prog 85 #[.int .u64 1] w2 fun e w' => ∃ v', e = .returned v' ∧ Below w2.heap.size w2 w' ∧ Num w' v' 1) := Lib.hid (of_any 1 (by decide) w2)
    have hsz2 : w.heap.size < w2.heap.size := by have := b2.size; omega
    clear hz b2 OI
    go_wp2_with fail
    refine ON.out.mono ?_
    rintro e w3 ⟨v3, rfl, b3, ho⟩
    obtain ⟨a2, k2, c2, rfl⟩ := num_shape ho
    have R3 := Lib.hid (blk_below' b3 R2.out); have B3 := Lib.hid (below_of B2.out b3)
    have hn1 := (HZ.out.num).1
    subst hn1
    have F0 : Hid (FrV w3 (.agg #[.bool (sgn 1), .slice a1 k1 c1, .slice a2 k2 c2]) 1 1) := Lib.hid ⟨_, _, _, _, _, _, rfl, (HZ.out.num).2.below' b3, ho⟩
    have hsz3 : w.heap.size < w3.heap.size := by have := b3.size; omega
    clear ho b3 ON HZ
    go_wp2
    go_loopw [11, 24] (fun _ i wr => GaR true (1, 1) w w3 wr L i) (fun _ i _ => L.length - (intOf i).toNat)
    case atStart =>
      have hb := (Below.refl w3.heap.size w3).alloc (Nat.le_refl _) (Obj.cells #[.bool (sgn 1), .slice a1 k1 c1, .slice a2 k2 c2] 84)
      exact ⟨0, 1, 1, _, _, _, Nat.zero_le _, rfl, heap_alloc_new w3 _, F0.out.below hb, B3.out.alloc B3.out.size _, blk_below' hb R3.out, rfl, small_long (by decide) (by decide), Nat.one_pos⟩
    case round =>
      obtain ⟨k, x, d, s0, s1, s2, hk, rfl, h9, hf, hbel, h6, hfo, hnl, hd0⟩ := hrel
      have H9 := Lib.hid h9; have HF := Lib.hid hf; have HB := Lib.hid hbel; have H6 := Lib.hid h6; have HFO := Lib.hid hfo; have HNL := Lib.hid hnl; have HD0 := Lib.hid hd0
      obtain ⟨aa, ka, ca, ab, kb, cb', ev, -⟩ := hf
      simp only [Value.agg.injEq, Array.mk.injEq, List.cons.injEq, and_true] at ev
      obtain ⟨rfl, rfl, rfl⟩ := ev
      have hlt9 := (Array.getElem?_eq_some_iff.1 h9).1
      clear h9 hbel h6 hfo hnl hd0
      by_cases hlt : k < L.length
      · have hx : L[k]? = some L[k] := List.getElem?_eq_getElem hlt
        have hne : L ≠ [] := fun e => by rw [e] at hlt; simp at hlt
        have HM : Hid (L[k] ∈ L) := Lib.hid (List.getElem_mem hlt)
        have HDR : Hid (L.drop k = L[k] :: L.drop (k + 1)) := Lib.hid (List.drop_eq_getElem_cons hlt)
        obtain ⟨ao', cap', he, hc⟩ := HV.out.below HB.out
        obtain ⟨b, off, hb, hblt, hcc⟩ := hc hne
        injection he with he1 he2 he3
        rw [hb] at he1
        subst he1
        obtain ⟨hr, t0, t1, t2, e0, c0, c1', c2'⟩ := hcc k _ hx
        generalize L[k] = y at *
        obtain ⟨vy, x2, d2⟩ := y
        have e0' : vy = .agg #[t0, t1, t2] := e0
        subst e0'
        have HYZ : Hid (0 < d2 ∧ x2.natAbs < BigR ∧ d2 < BigR) := Lib.hid (by
          refine ⟨Nat.pos_of_ne_zero (fun e => HD.out ⟨_, HM.out, e⟩), ?_⟩
          have : ¬ (BigR ≤ x2.natAbs ∨ BigR ≤ d2) := fun e => HL.out ⟨_, HM.out, e⟩
          omega)
        have HRY := Lib.hid hr
        obtain ⟨n, a, kk, c, a', k', c', xs, ys, ev, -⟩ := hr
        simp only [Value.agg.injEq, Array.mk.injEq, List.cons.injEq, and_true] at ev
        obtain ⟨rfl, rfl, rfl⟩ := ev
        obtain ⟨V, eV, g1, bV, hzV⟩ := alloc1 wr (Obj.cells #[.bool n, .slice a kk c, .slice a' k' c'] 27)
        have V9 := Lib.hid (blk_below' bV H9.out); have V6 := Lib.hid (blk_below' bV H6.out); have VB := Lib.hid (below_of HB.out bV); have VF := Lib.hid (HF.out.below bV)
        have RD : Hid (∀ u, Below V.heap.size V u → Calls Tryz.prog 50 #[.agg #[.bool n, .slice a kk c, .slice a' k' c']] u fun e w' => ∃ v', e = .returned v' ∧ FrV w' v' x2 d2 ∧ Below u.heap.size u w') := Lib.hid (fun u hu => rread_any _ x2 d2 u ((HRY.out.below bV).below hu))
        have JN : Hid (∀ u vb, Below V.heap.size V u → FrV u vb x2 d2 → Calls Tryz.prog 65 #[.agg #[.bool (sgn x), .slice aa ka ca, .slice ab kb cb'], vb] u fun e w' => ∃ v', e = .returned v' ∧ FrV w' v' (x * x2) (d * d2) ∧ Below u.heap.size u w') := Lib.hid (fun u vb hu hb => by
          have hn := HNL.out
          unfold longQ at hn
          have hy := HYZ.out
          exact fby_any _ vb x x2 d d2 u (VF.out.below hu) hb (bigR_lt (by omega)) (bigR_lt (by omega)) (bigR_lt (by omega)) (bigR_lt (by omega)) (by rw [Int.natAbs_mul]; exact mulR (by omega) (by omega)) (mulR (by omega) (by omega)))
        have SZ : Hid ((x * x2).natAbs < Big ∧ d * d2 < Big ∧ 0 < d * d2) := Lib.hid (by
          have hn := HNL.out
          unfold longQ at hn
          have hy := HYZ.out
          have hd0 := HD0.out
          exact ⟨by rw [Int.natAbs_mul]; exact mulR (by omega) (by omega), mulR (by omega) (by omega), Nat.mul_pos hd0 hy.1⟩)
        have LW : Hid (∀ u vb, FrV u vb (x * x2) (d * d2) → Calls Tryz.prog 72 #[vb] u fun e w' => ∃ v', e = .returned v' ∧ FrO w' u.heap.size v' (lowN (x * x2) (d * d2)) (lowD (x * x2) (d * d2)) ∧ Below u.heap.size u w') := Lib.hid (fun u vb h => lowest_any vb _ _ u h SZ.out.1 SZ.out.2.1 SZ.out.2.2)
        have QS : Hid (stepQ true (x, d) (Value.agg #[.bool n, .slice a kk c, .slice a' k' c'], x2, d2) = (lowN (x * x2) (d * d2), lowD (x * x2) (d * d2))) := Lib.hid rfl
        have HDP : Hid (0 < lowD (x * x2) (d * d2)) := Lib.hid (lowD_pos SZ.out.2.2)
        generalize (x * x2) = XX at *
        generalize (d * d2) = DD at *
        generalize lowN XX DD = lx at *
        generalize lowD XX DD = ld at *
        obtain ⟨⟨p0, p1, p2⟩, _, lp⟩ := blk3 g1
        obtain ⟨⟨q0, q1, q2⟩, ⟨y0, y1, y2⟩, lq⟩ := blk3 V9.out
        have hq9 : w3.heap.size < V.heap.size := lq
        have hB0 := (Below.refl V.heap.size V).drew
        clear hx hc hcc he2 he3 hne e0 g1 bV hzV
        go_wp2_with fail
        try rw [eV]
        clear eV
        go_region_with (first
          | (go_at_call 50; refine Calls.mono (RD.out _ (by first | exact Below.refl _ _ | exact (Below.refl _ _).drew | exact (Below.refl _ _).drew.drew)) ?_; rintro e wA ⟨vA, rfl, hfA, hbA⟩; have BA := Lib.hid (below_of (w := V) (by first | exact Below.refl _ _ | exact (Below.refl _ _).drew | exact (Below.refl _ _).drew.drew) hbA); have FA := Lib.hid hfA; have u0 := cell_to BA.out q0 lq; have u1 := cell_to BA.out q1 lq; have u2 := cell_to BA.out q2 lq; clear hfA hbA)
          | (go_at_call 65; refine Calls.mono (JN.out _ _ (by first | exact BA.out | exact BA.out.drew) (by first | exact FA.out | exact FA.out.below ((Below.refl _ _).drew))) ?_; rintro e wB ⟨vB, rfl, hfB, hbB⟩; have BB := Lib.hid (below_of (w := V) (by first | exact BA.out | exact BA.out.drew) hbB); have FB := Lib.hid hfB; clear hfB hbB)
          | (go_at_call 72; refine Calls.mono (LW.out _ _ (by first | exact FB.out | exact FB.out.below ((Below.refl _ _).drew))) ?_; rintro e wC ⟨vC, rfl, hfC, hbC⟩; have BC := Lib.hid (below_of (w := V) (by first | exact BB.out | exact BB.out.drew) hbC); have hszC : w3.heap.size < wB.heap.size := size_to BB.out hq9; obtain ⟨aC, kC, cC, aD, kD, cD, rfl, o1, o2⟩ := hfC; have O1 := Lib.hid o1; have O2 := Lib.hid o2; have C9 := Lib.hid (blk_below' BC.out V9.out); have C6 := Lib.hid (blk_below' BC.out V6.out); have BWC := Lib.hid (below_of VB.out BC.out); obtain ⟨⟨z0, z1, z2⟩, ⟨x0, x1, x2'⟩, _⟩ := blk3 C9.out; clear o1 o2 hbC))
        all_goals
          have h9' := heap_setCell_same _ _ 2 _ _ (.slice aD kD cD) (heap_setCell_same _ _ 1 _ _ (.slice aC kC cC) (heap_setCell_same _ _ 0 _ _ (.bool (sgn lx)) C9.out))
          have ne6 : w.heap.size ≠ w3.heap.size := by omega
          have hle9 : w.heap.size ≤ w3.heap.size := by omega
          have h6' : ((((wC.setCell ⟨w3.heap.size, 0, none⟩ (.bool (sgn lx))).setCell ⟨w3.heap.size, 1, none⟩ (.slice aC kC cC)).setCell ⟨w3.heap.size, 2, none⟩ (.slice aD kD cD))).heap[w.heap.size]? = some (.cells #[.bool false, .slice none 0 0, .slice none 0 0] 27 (0, 0)) := by
            rw [heap_setCell_other _ ⟨w3.heap.size, 2, none⟩ w.heap.size _ ne6, heap_setCell_other _ ⟨w3.heap.size, 1, none⟩ w.heap.size _ ne6, heap_setCell_other _ ⟨w3.heap.size, 0, none⟩ w.heap.size _ ne6]
            exact C6.out
          have FN := FrO.fr ⟨aC, kC, cC, aD, kD, cD, rfl, ow_far3 (y0 := .bool (sgn lx)) (y1 := .slice aC kC cC) (y2 := .slice aD kD cD) O1.out hszC, ow_far3 (y0 := .bool (sgn lx)) (y1 := .slice aC kC cC) (y2 := .slice aD kD cD) O2.out hszC⟩
          have BN := ((BWC.out.setCell (p := ⟨w3.heap.size, 0, none⟩) hle9 (.bool (sgn lx))).setCell (p := ⟨w3.heap.size, 1, none⟩) hle9 (.slice aC kC cC)).setCell (p := ⟨w3.heap.size, 2, none⟩) hle9 (.slice aD kD cD)
          have h9x : ((((wC.setCell ⟨w3.heap.size, 0, none⟩ (.bool (sgn lx))).setCell ⟨w3.heap.size, 1, none⟩ (.slice aC kC cC)).setCell ⟨w3.heap.size, 2, none⟩ (.slice aD kD cD))).heap[w3.heap.size]? = some (.cells #[.bool (sgn lx), .slice aC kC cC, .slice aD kD cD] 84 (0, 0)) := h9'
          go_wp2_with fail
          generalize ((((wC.setCell ⟨w3.heap.size, 0, none⟩ (.bool (sgn lx))).setCell ⟨w3.heap.size, 1, none⟩ (.slice aC kC cC)).setCell ⟨w3.heap.size, 2, none⟩ (.slice aD kD cD))) = U at *
          obtain ⟨r, hr⟩ : ∃ r, decide (BigR ≤ lx.natAbs ∨ BigR ≤ ld) = r := ⟨_, rfl⟩
          have HRR := Lib.hid hr
          have H9X := Lib.hid h9x; have H6X := Lib.hid h6'; have FNX := Lib.hid FN; have BNX := Lib.hid BN
          clear hr h9' h9x h6' FN BN z0 z1 z2 x0 x1 x2' q0 q1 q2 y0 y1 y2 p0 p1 p2 u0 u1 u2 hB0
          refine Calls.mono (flong_any _ lx ld r U FNX.out HRR.out) ?_
          rintro e w5 ⟨rfl, b5⟩
          have R5 := Lib.hid (blk_below' b5 H6X.out); have N5 := Lib.hid (blk_below' b5 H9X.out); have B5 := Lib.hid (below_of BNX.out b5); have F5 := Lib.hid (FNX.out.below b5)
          clear b5
          cases r with
          | true =>
            have HNone : Hid (foldQ true (1, 1) L = none) := Lib.hid (by
              rw [HFO.out, HDR.out]
              exact fold_yes (by rw [QS.out]; exact of_decide_eq_true (p := BigR ≤ lx.natAbs ∨ BigR ≤ ld) HRR.out))
            obtain ⟨⟨r0, r1, r2⟩, ⟨f0, f1, f2⟩, _⟩ := blk3 R5.out
            go_wp2
            refine bodyPost_ret (v := .tuple #[.agg #[.bool false, .slice none 0 0, .slice none 0 0], .int .i64 5]) ?_ rfl ⟨_, _, rfl, .inr (.inl ⟨HD.out, .inr HNone.out, rfl, rfl⟩), ((B5.out.setCell (p := ⟨w.heap.size, 0, none⟩) hle _).setCell (p := ⟨w.heap.size, 1, none⟩) hle _).setCell (p := ⟨w.heap.size, 2, none⟩) hle _⟩
            simp [results, Tryz.results64, go_sem, *]
          | false =>
            have HNL2 : Hid (¬ longQ (lx, ld)) := Lib.hid (of_decide_eq_false (p := BigR ≤ lx.natAbs ∨ BigR ≤ ld) HRR.out)
            have HFO2 : Hid (foldQ true (1, 1) L = foldQ true (lx, ld) (L.drop (k + 1))) := Lib.hid (by
              rw [HFO.out, HDR.out, fold_no (by rw [QS.out]; exact HNL2.out), QS.out])
            go_wp2
            go_roundw
            case rel => exact ⟨k + 1, lx, ld, _, _, _, by omega, by go_num, N5.out, F5.out, B5.out, R5.out, HFO2.out, HNL2.out, HDP.out⟩
            case measure => simp [intOf]; omega
      · obtain rfl : k = L.length := by omega
        have HFS : Hid (foldQ true (1, 1) L = some (x, d)) := Lib.hid (by rw [HFO.out, List.drop_length]; rfl)
        obtain ⟨⟨q0, q1, q2⟩, _, _⟩ := blk3 H9.out
        have RT := Lib.hid (rat_is (sgn x) aa ka ca ab kb cb' wr)
        go_wp2_with fail
        refine RT.out.mono ?_
        rintro e w5 ⟨rfl, b5⟩
        have R5 := Lib.hid (blk_below' b5 H6.out); have B5 := Lib.hid (below_of HB.out b5); have F5 := Lib.hid (HF.out.below b5)
        obtain ⟨⟨r0, r1, r2⟩, ⟨f0, f1, f2⟩, _⟩ := blk3 R5.out
        clear b5 RT q0 q1 q2
        go_wp2
        refine bodyPost_ret (v := .tuple #[.agg #[.bool (sgn x), .slice aa ka ca, .slice ab kb cb'], .int .i64 0]) ?_ rfl ⟨_, _, rfl, .inr (.inr ⟨HD.out, HL.out, x, d, HFS.out, rfl, F5.out.far3 R5.out⟩), ((B5.out.setCell (p := ⟨w.heap.size, 0, none⟩) hle _).setCell (p := ⟨w.heap.size, 1, none⟩) hle _).setCell (p := ⟨w.heap.size, 2, none⟩) hle _⟩
        simp [results, Tryz.results64, go_sem, *]
end Go.Proofs.YthgmebnihpjnoaaGreatDoor

/- Package ratio: Add, Mul (written by genrt.py). -/
namespace Go.Proofs.YthgmebnihpjnoaaGreatDoor
open Go.RowKit Mth

theorem frv_shape {w : World} {v : Value} {x : Int} {d : Nat} (h : FrV w v x d) : ∃ n a k c a' k' c', v = .agg #[.bool n, .slice a k c, .slice a' k' c'] := by
  obtain ⟨a, k, c, a', k', c', e, _⟩ := h
  exact ⟨_, a, k, c, a', k', c', e⟩
theorem gat_shape {mul : Bool} {s : Int × Nat} {L : List (Value × Int × Nat)} {w : World} {v : Value} {E : Int} (h : GatO mul s L w v E) : ∃ n a k c a' k' c', v = .agg #[.bool n, .slice a k c, .slice a' k' c'] := by
  rcases h with ⟨_, _, e⟩ | ⟨_, _, _, e⟩ | ⟨_, _, x, d, _, _, hf⟩
  · exact ⟨_, _, _, _, _, _, _, e⟩
  · exact ⟨_, _, _, _, _, _, _, e⟩
  · exact frv_shape hf
theorem GatO.far3 {mul : Bool} {s : Int × Nat} {L : List (Value × Int × Nat)} {w : World} {v y0 y1 y2 : Value} {E : Int} {R : Nat} {T : TypeId} {x : Bool} {ao ao' : Option Addr} {k c k' c' : Nat} (h : GatO mul s L w v E) (hR : w.heap[R]? = some (.cells #[.bool x, .slice ao k c, .slice ao' k' c'] T (0, 0))) : GatO mul s L (((w.setCell ⟨R, 0, none⟩ y0).setCell ⟨R, 1, none⟩ y1).setCell ⟨R, 2, none⟩ y2) v E := by
  rcases h with h | h | ⟨h1, h2, x, d, h3, h4, hf⟩
  · exact .inl h
  · exact .inr (.inl h)
  · exact .inr (.inr ⟨h1, h2, x, d, h3, h4, hf.far3 hR⟩)
set_option maxHeartbeats 4000000 in
set_option maxRecDepth 100000 in
theorem radd_any3 (L : List (Value × Int × Nat)) (v : Value) (w : World) (hv : RaL w v L) (hlen : L.length ≤ 1048576) :
    Calls Tryz.prog 37 #[v] w fun e w' => ∃ v' E, e = .returned (.tuple #[v', .int .i64 E]) ∧ GatO false (0, 1) L w' v' E ∧ Below w.heap.size w w' := by
  obtain ⟨W, eW, h1, bW, hzW⟩ := alloc1 w (Obj.cells #[.bool false, .slice none 0 0, .slice none 0 0] 27)
  have HR := Lib.hid h1; have BW := Lib.hid bW
  have GA := Lib.hid (gatherP_any L v W (hv.below bW) hlen)
  have hle : w.heap.size ≤ w.heap.size := Nat.le_refl _
  clear h1 bW hv
  go_enter Tryz.func37, Tryz.ntmps37
  go_wp2_with fail
  refine GA.out.mono ?_
  rintro e w1 ⟨v1, E, rfl, hg, b1⟩
  have R1 := Lib.hid (blk_below' b1 HR.out); have B1 := Lib.hid (below_of BW.out b1)
  obtain ⟨n, a, k, c, a', k', c', rfl⟩ := gat_shape hg
  have HG := Lib.hid hg
  obtain ⟨⟨r0, r1, r2⟩, ⟨f0, f1, f2⟩, _⟩ := blk3 R1.out
  clear b1 hg GA HR BW eW hzW
  go_wp2
  refine bodyPost_ret (v := .tuple #[.agg #[.bool n, .slice a k c, .slice a' k' c'], .int .i64 E]) ?_ rfl ⟨_, _, rfl, HG.out.far3 R1.out, ((B1.out.setCell (p := ⟨w.heap.size, 0, none⟩) hle _).setCell (p := ⟨w.heap.size, 1, none⟩) hle _).setCell (p := ⟨w.heap.size, 2, none⟩) hle _⟩
  simp [results, Tryz.results37, go_sem, *]
set_option maxHeartbeats 4000000 in
set_option maxRecDepth 100000 in
theorem rmul_any3 (L : List (Value × Int × Nat)) (v : Value) (w : World) (hv : RaL w v L) (hlen : L.length ≤ 1048576) :
    Calls Tryz.prog 26 #[v] w fun e w' => ∃ v' E, e = .returned (.tuple #[v', .int .i64 E]) ∧ GatO true (1, 1) L w' v' E ∧ Below w.heap.size w w' := by
  obtain ⟨W, eW, h1, bW, hzW⟩ := alloc1 w (Obj.cells #[.bool false, .slice none 0 0, .slice none 0 0] 27)
  have HR := Lib.hid h1; have BW := Lib.hid bW
  have GA := Lib.hid (gatherB_any L v W (hv.below bW) hlen)
  have hle : w.heap.size ≤ w.heap.size := Nat.le_refl _
  clear h1 bW hv
  go_enter Tryz.func26, Tryz.ntmps26
  go_wp2_with fail
  refine GA.out.mono ?_
  rintro e w1 ⟨v1, E, rfl, hg, b1⟩
  have R1 := Lib.hid (blk_below' b1 HR.out); have B1 := Lib.hid (below_of BW.out b1)
  obtain ⟨n, a, k, c, a', k', c', rfl⟩ := gat_shape hg
  have HG := Lib.hid hg
  obtain ⟨⟨r0, r1, r2⟩, ⟨f0, f1, f2⟩, _⟩ := blk3 R1.out
  clear b1 hg GA HR BW eW hzW
  go_wp2
  refine bodyPost_ret (v := .tuple #[.agg #[.bool n, .slice a k c, .slice a' k' c'], .int .i64 E]) ?_ rfl ⟨_, _, rfl, HG.out.far3 R1.out, ((B1.out.setCell (p := ⟨w.heap.size, 0, none⟩) hle _).setCell (p := ⟨w.heap.size, 1, none⟩) hle _).setCell (p := ⟨w.heap.size, 2, none⟩) hle _⟩
  simp [results, Tryz.results26, go_sem, *]
end Go.Proofs.YthgmebnihpjnoaaGreatDoor
