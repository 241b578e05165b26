/- tribunalref03: all. -/
import Derived.Test.YthgmebnihpjnoaaGreatDoorRQL
set_option linter.unusedVariables false
set_option linter.unusedSimpArgs false
namespace Go.Proofs.YthgmebnihpjnoaaGreatDoor
open Go.RowKit Mth

/-- what all answers -/
def AllO (w' : World) (v' : Value) (L : List (Value × Int × Nat)) (E : Int) : Prop :=
  (rzero L ∧ E = 11) ∨ (¬ rzero L ∧ rlong L ∧ E = 5) ∨ (¬ rzero L ∧ ¬ rlong L ∧ E = 0 ∧ ∃ cs : List QC, QcL w' v' cs ∧ cs.length = L.length ∧ ∀ (i : Nat) c y, cs[i]? = some c → L[i]? = some y → QV w' c.v y.2.1 y.2.2)
def AllB (wr : World) (L : List (Value × Int × Nat)) (k : Nat) (cs : List QC) (B : Int) : Prop :=
  (B = 5 ∧ rlong L) ∨ (B = 0 ∧ (∀ (j : Nat) y, j < k → L[j]? = some y → ¬ rlong1 y) ∧ ∀ (j : Nat) c y, cs[j]? = some c → L[j]? = some y → QV wr c.v y.2.1 y.2.2)
def AllR (w wr : World) (L : List (Value × Int × Nat)) (vo B i : Value) : Prop :=
  ∃ (k : Nat) (cs : List QC) (b : Int), k ≤ L.length ∧ i = .int .i64 (k : Int) ∧ B = .int .i64 b ∧ QOwn wr w.heap.size vo cs ∧ cs.length = k ∧ Below w.heap.size w wr ∧ (∀ (j : Nat) y, j < k → L[j]? = some y → y.2.2 ≠ 0) ∧ AllB wr L k cs b
theorem qown_slice {w : World} {base : Nat} {v : Value} {L : List QC} (h : QOwn w base v L) : ∃ a k c, v = .slice a k c := by
  rcases h.1.2 with ⟨rfl, _⟩ | ⟨g, cap, cur, rfl, _⟩
  · exact ⟨_, _, _, rfl⟩
  · exact ⟨_, _, _, rfl⟩
theorem fq_zero {x : Int} {d : Nat} (h : d = 0) : fqE x d = 11 := if_pos h
theorem fq_big {x : Int} {d : Nat} (h : d ≠ 0) (k : BigR ≤ x.natAbs ∨ BigR ≤ d) : fqE x d = 5 := (if_neg h).trans (if_pos k)
theorem fq_fine {x : Int} {d : Nat} (h : d ≠ 0) (k : ¬ (BigR ≤ x.natAbs ∨ BigR ≤ d)) : fqE x d = 0 := (if_neg h).trans (if_neg k)
/-- one step more, whatever the fraction -/
theorem allB_step {w1 w2 : World} {base : Nat} {vo : Value} {L : List (Value × Int × Nat)} {k : Nat} {cs : List QC} {b : Int} {q : QC} {y : Value × Int × Nat} (h : AllB w1 L k cs b) (hk : cs.length = k) (hy : L[k]? = some y) (hq : ¬ rlong1 y → QV w1 q.v y.2.1 y.2.2) (ho : QOwn w1 base vo cs) (hg : w1.grownBy w2 vo.ownBlock) :
    (rlong1 y → AllB w2 L (k + 1) (cs ++ [q]) 5) ∧ (¬ rlong1 y → AllB w2 L (k + 1) (cs ++ [q]) b) := by
  refine ⟨fun hl => .inl ⟨rfl, y, List.mem_of_getElem? hy, hl⟩, fun hl => ?_⟩
  rcases h with ⟨h1, h2⟩ | ⟨h1, h2, h3⟩
  · exact .inl ⟨h1, h2⟩
  · refine .inr ⟨h1, all_step' (P := fun y : Value × Int × Nat => ¬ rlong1 y) h2 hy hl, fun j c z hc hz => ?_⟩
    by_cases hj : j < cs.length
    · rw [List.getElem?_append_left hj] at hc
      exact (h3 j c z hc hz).grownQ ho hg
    · have hj2 : j < (cs ++ [q]).length := (List.getElem?_eq_some_iff.1 hc).1
      rw [List.length_append, List.length_singleton] at hj2
      obtain rfl : j = cs.length := by omega
      rw [List.getElem?_append_right (Nat.le_refl _), Nat.sub_self] at hc
      obtain rfl : q = c := by simpa using hc
      rw [hk] at hz
      obtain rfl := Option.some.inj (hy.symm.trans hz)
      exact (hq hl).grownQ ho hg
theorem AllB.below {w1 w2 : World} {L : List (Value × Int × Nat)} {k : Nat} {cs : List QC} {b : Int} (h : AllB w1 L k cs b) (hb : Below w1.heap.size w1 w2) : AllB w2 L k cs b :=
  h.imp id (fun ⟨h1, h2, h3⟩ => ⟨h1, h2, fun j c z hc hz => (h3 j c z hc hz).below hb⟩)
set_option maxHeartbeats 8000000 in
set_option maxRecDepth 100000 in
theorem rall_any (L : List (Value × Int × Nat)) (v : Value) (w : World) (hv : RaL w v L) (hlen : L.length ≤ 1048576) :
    Calls Tryz.prog 54 #[v] w fun e w' => ∃ v' E, e = .returned (.tuple #[v', .int .i64 E]) ∧ AllO w' v' L E ∧ (∃ a k c, v' = .slice a k c) ∧ Below w.heap.size w w' := by
  have HV := Lib.hid hv; have HLEN := Lib.hid hlen
  obtain ⟨ao, cap, rfl, _⟩ := hv
  go_enter Tryz.func54, Tryz.ntmps54
  go_wp2
  go_loopw [4, 5, 6] (fun vo B i wr => AllR w wr L vo B i) (fun _ _ i _ => L.length - (intOf i).toNat)
  case atStart => exact ⟨0, [], 0, Nat.zero_le _, rfl, rfl, QOwn.nil _ _, rfl, Below.refl _ _, fun j y hj => by omega, .inr ⟨rfl, fun j y hj => by omega, fun j c y hc => by simp at hc⟩⟩
  case round =>
    obtain ⟨k, cs, b, hk, rfl, rfl, ho, hcl, hbel, hno, hab⟩ := hrel
    have HB := Lib.hid hbel; have HNO := Lib.hid hno; have HO := Lib.hid ho; have HAB := Lib.hid hab; have HCL := Lib.hid hcl
    obtain ⟨ja, jk, jc, rfl⟩ := qown_slice ho
    clear hbel hno ho hab hcl
    by_cases hlt : k < L.length
    · have hx : L[k]? = some L[k] := List.getElem?_eq_getElem hlt
      have hne : L ≠ [] := fun e => by rw [e] at hlt; simp at hlt
      have HM : Hid (L[k] ∈ L) := Lib.hid (List.getElem_mem hlt)
      obtain ⟨ao', cap', he, hc⟩ := HV.out.below HB.out
      obtain ⟨bb, off, hb, hblt, hcc⟩ := hc hne
      injection he with he1 he2 he3
      rw [hb] at he1
      subst he1
      obtain ⟨hr, s0, s1, s2, e0, c0, c1, c2⟩ := hcc k _ hx
      have HX := Lib.hid hx
      generalize L[k] = y at *
      obtain ⟨vy, x, d⟩ := y
      have e0' : vy = .agg #[s0, s1, s2] := e0
      subst e0'
      have RF := Lib.hid (rfromq_any _ x d wr hr)
      obtain ⟨n, a, kk, c, a', k', c', xs, ys, ev, -⟩ := hr
      simp only [Value.agg.injEq, Array.mk.injEq, List.cons.injEq, and_true] at ev
      obtain ⟨rfl, rfl, rfl⟩ := ev
      clear hx hc hcc he2 he3 hne e0
      go_wp2_with fail
      refine RF.out.mono ?_
      rintro e w1 ⟨v1, rfl, hq, ⟨m1, a1, k1, c1', m2, a2, k2, c2', rfl⟩, b1⟩
      obtain ⟨U, eU, gU, bU, hsU⟩ := alloc1q w1 (Obj.cells #[.bool m1, .slice a1 k1 c1', .bool m2, .slice a2 k2 c2'] 71)
      have bb1 := below_of b1 bU
      have BU := Lib.hid (below_of HB.out bb1); have OU := Lib.hid (HO.out.below bb1); have AU := Lib.hid (HAB.out.below bb1)
      have HQ : Hid (d ≠ 0 → ¬ rlong1 (Value.agg #[.bool n, .slice a kk c, .slice a' k' c'], x, d) → QV U (QC.v ⟨m1, a1, k1, c1', m2, a2, k2, c2'⟩) x d) := Lib.hid (fun h1 h2 => (hq (fq_fine h1 h2)).below bU)
      have GU := Lib.hid gU
      clear RF c0 c1 c2 hq b1 gU bU bb1 HB HO HAB
      obtain ⟨⟨p0, p1, p2, p3⟩, _, lp⟩ := blk4q GU.out
      by_cases h0 : d = 0
      · have HZ : Hid (rzero L) := Lib.hid ⟨_, HM.out, h0⟩
        rw [fq_zero h0]
        clear h0
        go_wp2
        try rw [eU]
        go_ret2
        exact ⟨_, _, rfl, .inl ⟨HZ.out, rfl⟩, ⟨_, _, _, rfl⟩, BU.out⟩
      · have H0 := Lib.hid h0
        obtain ⟨V, eV, gV, bV, hsV⟩ := alloc1q U (Obj.cells #[.bool m1, .slice a1 k1 c1', .bool m2, .slice a2 k2 c2'] 71)
        have OV := Lib.hid (OU.out.below bV); have AV := Lib.hid (AU.out.below bV); have BV := Lib.hid (below_of BU.out bV); have GV := Lib.hid gV
        have HQV : Hid (¬ rlong1 (Value.agg #[.bool n, .slice a kk c, .slice a' k' c'], x, d) → QV V (QC.v ⟨m1, a1, k1, c1', m2, a2, k2, c2'⟩) x d) := Lib.hid (fun h2 => (HQ.out H0.out h2).below bV)
        have hszw := BV.out.size
        have hlenc : cs.length ≤ 1048576 := by have := HCL.out; have := HLEN.out; omega
        have HN2 := Lib.hid (all_step' (P := fun y : Value × Int × Nat => y.2.2 ≠ 0) HNO.out HX.out H0.out)
        clear gV bV HQ AU OU BU GU
        by_cases hl : BigR ≤ x.natAbs ∨ BigR ≤ d
        · rw [fq_big h0 hl]
          have HL : Hid (rlong1 (Value.agg #[.bool n, .slice a kk c, .slice a' k' c'], x, d)) := Lib.hid hl
          clear h0 hl
          go_wp2_with (at_builtin; first
            | (try rw [eU]
               try rw [eV]
               refine append_q rfl (.tmp 28) (.tmp 30) rfl w.heap.size _ cs ⟨m1, a1, k1, c1', m2, a2, k2, c2'⟩ U.heap.size 1 rfl rfl OV.out GV.out hlenc hszw ?_; intro v' w2 hown2 hgr2; have O2 := Lib.hid hown2; have A2 := Lib.hid ((allB_step AV.out HCL.out HX.out HQV.out OV.out hgr2).1 HL.out); have B2 := Lib.hid (below_grownQ BV.out OV.out hgr2); obtain ⟨za, zk, zc, rfl⟩ := qown_slice hown2; clear hown2 hgr2))
          go_roundw
          case rel => exact ⟨k + 1, _, 5, by omega, by go_num, rfl, O2.out, by rw [List.length_append, HCL.out]; rfl, B2.out, HN2.out, A2.out⟩
          case measure => simp [intOf]; omega
        · rw [fq_fine h0 hl]
          have HL : Hid (¬ rlong1 (Value.agg #[.bool n, .slice a kk c, .slice a' k' c'], x, d)) := Lib.hid hl
          clear h0 hl
          go_wp2_with (at_builtin; first
            | (try rw [eU]
               try rw [eV]
               refine append_q rfl (.tmp 28) (.tmp 30) rfl w.heap.size _ cs ⟨m1, a1, k1, c1', m2, a2, k2, c2'⟩ U.heap.size 1 rfl rfl OV.out GV.out hlenc hszw ?_; intro v' w2 hown2 hgr2; have O2 := Lib.hid hown2; have A2 := Lib.hid ((allB_step AV.out HCL.out HX.out HQV.out OV.out hgr2).2 HL.out); have B2 := Lib.hid (below_grownQ BV.out OV.out hgr2); obtain ⟨za, zk, zc, rfl⟩ := qown_slice hown2; clear hown2 hgr2))
          go_roundw
          case rel => exact ⟨k + 1, _, b, by omega, by go_num, rfl, O2.out, by rw [List.length_append, HCL.out]; rfl, B2.out, HN2.out, A2.out⟩
          case measure => simp [intOf]; omega
    · obtain rfl : k = L.length := by omega
      have HNZ : Hid (¬ rzero L) := Lib.hid (all_none (P := fun y : Value × Int × Nat => y.2.2 = 0) HNO.out)
      have HAL : Hid (AllO wr (.slice ja jk jc) L b) := Lib.hid (by
        rcases HAB.out with ⟨rfl, h⟩ | ⟨rfl, h1, h2⟩
        · exact .inr (.inl ⟨HNZ.out, h, rfl⟩)
        · exact .inr (.inr ⟨HNZ.out, all_none (P := rlong1) h1, rfl, cs, QcL.own HO.out.1, HCL.out, h2⟩))
      go_wp2
      go_ret2
      exact ⟨_, _, rfl, HAL.out, ⟨_, _, _, rfl⟩, HB.out⟩
end Go.Proofs.YthgmebnihpjnoaaGreatDoor
