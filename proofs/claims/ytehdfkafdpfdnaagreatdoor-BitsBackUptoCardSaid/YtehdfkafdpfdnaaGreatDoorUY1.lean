/- YA YB YC. -/
import Derived.Test.YtehdfkafdpfdnaaGreatDoorUZ1
import Derived.Laws.BitsAllLaws
set_option linter.unusedVariables false
set_option linter.unusedSimpArgs false
/- tribunalref02: trim, Make, From. -/
namespace Go.Proofs.YtehdfkafdpfdnaaGreatDoor
open Go.RowKit Mth

/-- a slice value that is the number n in digits of base 2^16, none too many; a Z value -/
def QNum (w : World) (v : Value) (n : Nat) : Prop := ∃ ys, Sl w .u16 v ys ∧ Lim B16 ys ∧ Top ys ∧ val B16 ys = n
def ZV (w : World) (v : Value) (z : Int) : Prop := ∃ u, v = .agg #[.bool (sgn z), u] ∧ QNum w u z.natAbs
theorem QNum.below {w w' : World} {v : Value} {n : Nat} (h : QNum w v n) (hb : Below w.heap.size w w') : QNum w' v n := by
  obtain ⟨ys, h1, h2⟩ := h; exact ⟨ys, h1.below hb, h2⟩
theorem ZV.below {w w' : World} {v : Value} {z : Int} (h : ZV w v z) (hb : Below w.heap.size w w') : ZV w' v z := by
  obtain ⟨u, h1, h2⟩ := h; exact ⟨u, h1, h2.below hb⟩
theorem ZV.shape {w : World} {v : Value} {z : Int} (h : ZV w v z) : ∃ n ao k c, v = .agg #[.bool n, .slice ao k c] := by
  obtain ⟨u, rfl, ys, h1, _⟩ := h
  obtain ⟨ao, c, rfl⟩ := h1.shape
  exact ⟨_, _, _, _, rfl⟩
theorem ZV.parts {w : World} {n : Bool} {ao : Option Addr} {k c : Nat} {z : Int} (h : ZV w (.agg #[.bool n, .slice ao k c]) z) : n = sgn z ∧ ∃ ys, Sl w .u16 (.slice ao k c) ys ∧ Lim B16 ys ∧ Top ys ∧ val B16 ys = z.natAbs ∧ ys.length = k := by
  obtain ⟨u, e, ys, h1, h2, h3, h4⟩ := h
  simp only [Value.agg.injEq, Array.mk.injEq, List.cons.injEq, Value.bool.injEq, and_true] at e
  obtain ⟨rfl, rfl⟩ := e
  refine ⟨rfl, ys, h1, h2, h3, h4, ?_⟩
  obtain ⟨_, _, e, _⟩ := h1
  simp only [Value.slice.injEq] at e
  exact e.2.1.symm

set_option maxHeartbeats 400000 in
theorem qtrim_pos (b off cap : Nat) (xs : List Nat) (w : World) (hl : xs.length ≤ cap) (hm : cap ≤ maxLen)
    (hc : ∀ j, j < xs.length → w.cell? ⟨b, off + j, none⟩ = some (.int .u16 ((xs.getD j 0 : Nat) : Int))) :
    Calls Tryz.prog 109 #[.slice (some ⟨b, off, none⟩) xs.length cap] w fun e w' =>
      e = .returned (.slice (some ⟨b, off, none⟩) (tlen xs) cap) ∧ w = w' := by
  unfold maxLen at hm
  go_enter Tryz.func109, Tryz.ntmps109
  go_wp2
  go_loop [3] (fun n => ∃ k : Nat, k ≤ xs.length ∧ n = .int .i64 k ∧ (∀ j, k ≤ j → xs.getD j 0 = 0)) (fun n => (intOf n).toNat)
  case atStart => exact ⟨xs.length, Nat.le_refl _, rfl, fun j hj => getD_ge xs j hj⟩
  case round =>
    obtain ⟨k, hk, rfl, hz⟩ := hrel
    by_cases h0 : 0 < k
    · have hc1 := hc (k - 1) (by omega)
      have HZ := Lib.hid hz
      clear hz hc
      go_wp2
      · have h1 : ((xs[k - 1]?.getD 0 : Nat) : Int) == 0 := by assumption
        go_round
        case rel => exact ⟨k - 1, by omega, by congr 1; omega, fun j hj => by
          by_cases e : j = k - 1
          · subst e; simp at h1; simpa [List.getD_eq_getElem?_getD] using h1
          · exact HZ.out j (by omega)⟩
        case measure => simp [intOf]; omega
      · have h1 : (((xs[k - 1]?.getD 0 : Nat) : Int) == 0) = false := by assumption
        go_ret
        have e : tlen xs = k := tlen_eq HZ.out (.inr (by simp at h1; simpa [List.getD_eq_getElem?_getD] using h1))
        rw [e]
        exact ⟨rfl, rfl⟩
    · have HZ := Lib.hid hz
      clear hz hc
      go_wp2
      go_ret
      have e : tlen xs = k := tlen_eq HZ.out (.inl (by omega))
      rw [e]
      exact ⟨rfl, rfl⟩
theorem qtrim_zero (ao : Option Addr) (cap : Nat) (w : World) (hm : cap ≤ maxLen) (hn : ao = none → cap = 0) :
    Calls Tryz.prog 109 #[.slice ao 0 cap] w fun e w' => e = .returned (.slice ao 0 cap) ∧ w = w' := by
  unfold maxLen at hm
  cases ao with
  | none =>
    obtain rfl := hn rfl
    go_enter Tryz.func109, Tryz.ntmps109
    go_wp2
    refine wp_loop_rounds 1 ?_
    rw [rounds_succ]
    go_wp2
    go_ret
    exact ⟨rfl, rfl⟩
  | some a =>
    clear hn
    go_enter Tryz.func109, Tryz.ntmps109
    go_wp2
    refine wp_loop_rounds 1 ?_
    rw [rounds_succ]
    go_wp2
    go_ret
    exact ⟨rfl, rfl⟩
/-- the same, where the value is written out -/
theorem qtrim_eq {ao : Option Addr} {n cap : Nat} {xs : List Nat} {w : World} (h : Sl w .u16 (.slice ao n cap) xs) :
    Calls Tryz.prog 109 #[.slice ao n cap] w fun e w' => e = .returned (.slice ao (tlen xs) cap) ∧ w' = w := by
  obtain ⟨ao', cap', e, h1, h2, h3, h4, h5⟩ := h
  simp only [Value.slice.injEq] at e
  obtain ⟨rfl, rfl, rfl⟩ := e
  by_cases hp : 0 < xs.length
  · obtain ⟨b, off, rfl, hlt, hc⟩ := h5 hp
    exact (qtrim_pos b off cap xs w h1 h2 hc).mono fun e w' ⟨he, hw⟩ => ⟨he, hw.symm⟩
  · have : xs = [] := List.eq_nil_of_length_eq_zero (by omega)
    subst this
    exact (qtrim_zero ao cap w h2 h4).mono fun e w' ⟨he, hw⟩ => ⟨he, hw.symm⟩

theorem sgn_top16 (xs : List Nat) : decide ((0 : Int) < ((tlen xs : Nat) : Int)) = sgn (sg true (val B16 xs)) := by
  by_cases h : tlen xs = 0
  · have hv : val B16 xs = 0 := by rw [← val_trimL]; unfold trimL; rw [h]; rfl
    rw [hv, h]; rfl
  · have hv : 0 < val B16 xs := by
      have := val_ge_top (B := B16) (top_trimL xs) (by rw [length_trimL]; omega)
      rw [val_trimL] at this
      have h2 : 0 < B16 ^ ((trimL xs).length - 1) := Nat.pow_pos (by have := B16_pos; omega)
      omega
    rw [sgn_sg hv]
    exact decide_eq_true (by omega)
theorem qnum_trim {w : World} {v : Value} {xs : List Nat} (h : Sl w .u16 v (trimL xs)) (hx : Lim B16 xs) : QNum w v (val B16 xs) := ⟨_, h, lim_trimL hx, top_trimL xs, val_trimL _ _⟩
set_option maxRecDepth 100000 in
theorem make_any (b : Bool) (u : Value) (ys : List Nat) (w : World) (h : Sl w .u16 u ys) (l : Lim B16 ys) : Calls Tryz.prog 74 #[.bool b, u] w fun e w' => ∃ v', e = .returned v' ∧ ZV w v' (sg b (val B16 ys)) ∧ Below w.heap.size w w' := by
  obtain ⟨ao, c, rfl⟩ := h.shape
  have T : Hid (∀ w1, Below w.heap.size w w1 → Calls Tryz.prog 109 #[.slice ao ys.length c] w1 fun e w' => e = .returned (.slice ao (tlen ys) c) ∧ w' = w1) := Lib.hid (fun w1 hb => qtrim_eq (h.below hb))
  have Q := Lib.hid (qnum_trim h.trim l)
  have hB : Below w.heap.size w (w.alloc (Obj.cells #[Value.bool false, Value.slice none 0 0] 77)) := (Below.refl _ _).alloc (Nat.le_refl _) _
  have hlen : tlen ys ≤ 16777216 := Nat.le_trans (tlen_le ys) h.len
  clear h l
  cases b
  · go_enter Tryz.func74, Tryz.ntmps74
    go_wp2_with fail
    refine (T.out _ hB).mono ?_
    rintro e w' ⟨rfl, rfl⟩
    go_wp2
    refine bodyPost_ret (v := .agg #[.bool false, .slice ao (tlen ys) c]) ?_ rfl ⟨_, rfl, ⟨_, by rw [sg_false, sgn_nat], by rw [natAbs_sg]; exact Q.out⟩, (Below.refl _ _).alloc (Nat.le_refl _) _⟩
    simp [results, Tryz.results74, go_sem]
  · have E := Lib.hid (sgn_top16 ys)
    go_enter Tryz.func74, Tryz.ntmps74
    go_wp2_with fail
    refine (T.out _ hB).mono ?_
    rintro e w' ⟨rfl, rfl⟩
    go_wp2
    refine bodyPost_ret (v := .agg #[.bool (decide ((0 : Int) < ((tlen ys : Nat) : Int))), .slice ao (tlen ys) c]) ?_ rfl ⟨_, rfl, ⟨_, by rw [E.out], by rw [natAbs_sg]; exact Q.out⟩, (Below.refl _ _).alloc (Nat.le_refl _) _⟩
    simp [results, Tryz.results74, go_sem]

theorem info_u16 : (Tryz.prog.info? 134).map (fun i => (i.zero, i.size, i.bytes)) = some (some (.int .u16 0), 1, 2) := by kernel_rfl
/-- append of four digits, of one -/
theorem append_four {w : World} {ops : Array Oper} {rest : List Oper} {o : Oper} {a : Act} {Q : Exit → Act → World → Prop} (hgd : o.guard = none) (s x : Operand)
    (ho : o.op = .call { callee := .builtin .append, args := #[s, x], argTypes := #[75, 75] }) (base : Nat) (v u : Value) (xs ys : List Nat)
    (hs : a.eval s = v) (hx : a.eval x = u) (hown : w.ownsRow base 134 1 v xs.length (cellsOf .u16 xs)) (hu : Sl w .u16 u ys) (hlen : xs.length ≤ 16777216) (hbase : base ≤ w.heap.size)
    (h : ∀ v' w', w'.ownsRow base 134 1 v' (xs ++ ys).length (cellsOf .u16 (xs ++ ys)) → w.grownBy w' v.ownBlock → wpList Tryz.prog ops Q rest (a.put o.dst v') w') : wpList Tryz.prog ops Q (o :: rest) a w := by
  obtain ⟨i0, hi, hz0, hz1, hz2⟩ := info_parts info_u16
  have hul := hu.len
  obtain ⟨ao, cap, rfl, _, _, _, h4, h5⟩ := hu
  cases ao with
  | none =>
    obtain rfl := h4 rfl
    have h0 : ys = [] := by
      rcases Nat.eq_zero_or_pos ys.length with h0 | h0
      · exact List.eq_nil_of_length_eq_zero h0
      · obtain ⟨b, off, e, _⟩ := h5 h0
        cases e
    subst h0
    refine wpList_append_own_none hgd s x 75 ho base 134 i0 1 Tryz.underlying75 hi v _ _ hs hown hx ?_
    refine h v w ?_ (World.grownBy.refl _ _)
    rw [List.append_nil]; exact hown
  | some ad =>
    refine wpList_append_own w hgd s x 75 ho base 134 i0 _ 1 2 Tryz.underlying75 hi hz0 hz1 hz2 rfl (by decide) v _ _ hs hown ad ys.length cap (cellsOf .u16 ys) hx (by rw [length_cellsOf]; omega) ?_ (cells_one _ _)
      (by unfold maxLen; omega) (by omega) hbase ?_
    · intro j u hj
      have hjl : j < ys.length := by have := (List.getElem?_eq_some_iff.1 hj).1; rwa [length_cellsOf] at this
      rw [cellsOf_get _ _ _ hjl] at hj
      obtain ⟨b, off, e, _, hc⟩ := h5 (by omega)
      obtain rfl := Option.some.inj e
      rw [Addr.add_lit, hc j hjl, hj]
    · intro v' w' h2 h3 _
      refine h v' w' ?_ h3
      rw [cellsOf_append, List.length_append]
      exact h2

theorem sl_four (w : World) (d0 d1 d2 d3 : Int) (x : Nat) (h0 : d0 = ((hf x 0 : Nat) : Int)) (h1 : d1 = ((hf x 1 : Nat) : Int)) (h2 : d2 = ((hf x 2 : Nat) : Int)) (h3 : d3 = ((hf x 3 : Nat) : Int)) :
    Sl (w.alloc (Obj.cells #[Value.int .u16 d0, Value.int .u16 d1, Value.int .u16 d2, Value.int .u16 d3] 134)) .u16 (.slice (some ⟨w.heap.size, 0, none⟩) 4 4) (quad x) := by
  subst h0 h1 h2 h3
  refine ⟨some ⟨w.heap.size, 0, none⟩, 4, rfl, by simp [quad], by unfold maxLen; omega, by simp [quad], (fun e => by cases e), fun _ => ⟨w.heap.size, 0, rfl, by simp, ?_⟩⟩
  intro j hj
  have hj4 : j < 4 := by simpa [quad] using hj
  rw [Nat.zero_add]
  have : j = 0 ∨ j = 1 ∨ j = 2 ∨ j = 3 := by omega
  rcases this with rfl | rfl | rfl | rfl <;> simp [quad]
theorem uw0 (x : Nat) : (x : Int) % 65536 = ((hf x 0 : Nat) : Int) := by simp [hf]
theorem uw1 (x : Nat) : (x : Int) / 65536 % 65536 = ((hf x 1 : Nat) : Int) := by simp [hf]
theorem uw2 (x : Nat) : (x : Int) / 4294967296 % 65536 = ((hf x 2 : Nat) : Int) := by simp [hf]
theorem uw3 (x : Nat) : (x : Int) / 281474976710656 % 65536 = ((hf x 3 : Nat) : Int) := by simp [hf]
theorem uv0 (x : Nat) : IntKind.u16.wrap (x : Int) = ((hf x 0 : Nat) : Int) := uw0 x
theorem uv1 (x : Nat) : IntKind.u16.wrap ((x : Int) / 65536) = ((hf x 1 : Nat) : Int) := uw1 x
theorem uv2 (x : Nat) : IntKind.u16.wrap ((x : Int) / 4294967296) = ((hf x 2 : Nat) : Int) := uw2 x
theorem uv3 (x : Nat) : IntKind.u16.wrap ((x : Int) / 281474976710656) = ((hf x 3 : Nat) : Int) := uw3 x

/-- digits don't lie in a block of a sign and a slice -/
theorem Sl.ne {w : World} {k : IntKind} {v : Value} {xs : List Nat} {R b off : Nat} {T : TypeId} {x : Bool} {ao : Option Addr} {n c : Nat} {cap : Nat} (h : Sl w k v xs) (hR : w.heap[R]? = some (.cells #[.bool x, .slice ao n c] T (0, 0))) (e : v = .slice (some ⟨b, off, none⟩) xs.length cap) (hp : 0 < xs.length) : b ≠ R := by
  rintro rfl
  obtain ⟨ao', cap', e', _, _, _, _, h5⟩ := h
  obtain ⟨b', off', e2, _, hc⟩ := h5 hp
  rw [e] at e'
  simp only [Value.slice.injEq] at e'
  obtain ⟨rfl, _, _⟩ := e'
  simp only [Option.some.injEq, Addr.mk.injEq] at e2
  obtain ⟨rfl, rfl, _⟩ := e2
  have := hc 0 hp
  rw [cell_of_row w b _ _ _ (0, 0) hR] at this
  have h2 : off + 0 < 2 := (Array.getElem?_eq_some_iff.1 this).1
  have : off = 0 ∨ off = 1 := by omega
  rcases this with rfl | rfl <;> simp at this
theorem Sl.set_far {w : World} {k : IntKind} {v : Value} {xs : List Nat} {R j : Nat} {y : Value} (h : Sl w k v xs) (hne : ∀ b off cap, v = .slice (some ⟨b, off, none⟩) xs.length cap → 0 < xs.length → b ≠ R) : Sl (w.setCell ⟨R, j, none⟩ y) k v xs := by
  obtain ⟨ao, cap, rfl, h1, h2, h3, h4, h5⟩ := h
  refine ⟨ao, cap, rfl, h1, h2, h3, h4, fun hp => ?_⟩
  obtain ⟨b, off, rfl, hlt, hc⟩ := h5 hp
  have hb := hne b off cap rfl hp
  exact ⟨b, off, rfl, by simpa using hlt, fun i hi => (World.cell?_setCell_other (w := w) (a := ⟨R, j, none⟩) (b := ⟨b, off + i, none⟩) (v := y) (fun e => hb (congrArg Addr.block e).symm)).trans (hc i hi)⟩
theorem ZV.far {w : World} {v y0 y1 : Value} {z : Int} {R : Nat} {T : TypeId} {x : Bool} {ao : Option Addr} {n c : Nat} (h : ZV w v z) (hR : w.heap[R]? = some (.cells #[.bool x, .slice ao n c] T (0, 0))) : ZV ((w.setCell ⟨R, 0, none⟩ y0).setCell ⟨R, 1, none⟩ y1) v z := by
  obtain ⟨u, e, ys, h1, h2⟩ := h
  have hne : ∀ b off cap, u = .slice (some ⟨b, off, none⟩) ys.length cap → 0 < ys.length → b ≠ R := fun b off cap e hp => h1.ne hR e hp
  exact ⟨u, e, ys, (h1.set_far hne).set_far hne, h2⟩

/-- what From's loop holds -/
def FromZ (W wr : World) (xs : List Nat) (v i : Value) : Prop := ∃ k : Nat, k ≤ xs.length ∧ i = .int .i64 k ∧ wr.ownsRow W.heap.size 134 1 v (halves (xs.take k)).length (cellsOf .u16 (halves (xs.take k))) ∧ Below W.heap.size W wr
set_option maxHeartbeats 2000000 in
set_option maxRecDepth 100000 in
theorem from_any2 (v : Value) (z : Int) (w : World) (h : IntV w v z) : Calls Tryz.prog 40 #[v] w fun e w' => ∃ v', e = .returned v' ∧ ZV w' v' z ∧ Below w.heap.size w w' := by
  obtain ⟨n, u, xs, rfl, hs, hl, hlen, rfl⟩ := h
  obtain ⟨ao, c, rfl⟩ := hs.shape
  have HS := Lib.hid hs; have HL := Lib.hid hl
  clear hs hl
  go_enter Tryz.func40, Tryz.ntmps40
  go_wp2
  obtain ⟨W, eW, h1, h2, bel, hsz⟩ := alloc2 w (Obj.cells #[Value.bool n, Value.slice ao xs.length c] 37) (Obj.cells #[Value.bool false, Value.slice none 0 0] 77)
  rw [eW]
  obtain ⟨p0, p1, f0, f1, _⟩ := blk2 h1
  have H2 := Lib.hid h2
  clear eW h1 h2
  go_loopw [3, 4] (fun v i wr => FromZ W wr xs v i) (fun _ i _ => xs.length - (intOf i).toNat)
  case atStart => exact ⟨0, Nat.zero_le _, rfl, World.ownsRow_nil _ _ _ _, Below.refl _ _⟩
  case round =>
    obtain ⟨k, hk, rfl, hown, hbel⟩ := hrel
    have q1 := cell_to hbel p1 (by omega)
    have HO := Lib.hid hown; have HB := Lib.hid hbel
    by_cases hkl : k < xs.length
    · obtain ⟨b, off, cap, e, hc1, hc2, hblt, hc⟩ := HS.out.pos (by omega)
      simp only [Value.slice.injEq] at e
      obtain ⟨rfl, _, rfl⟩ := e
      have hck : wr.cell? ⟨b, off + k, none⟩ = some (.int .u64 ((xs.getD k 0 : Nat) : Int)) := cell_to hbel (cell_to bel (hc k hkl) hblt) (by have := bel.size; omega)
      have HHL : Hid ((halves (xs.take k)).length ≤ 16777200) := Lib.hid (by rw [length_halves, List.length_take]; omega)
      have HHS := Lib.hid (halves_take_succ hkl)
      have hx64 := HL.out k
      generalize hx : xs.getD k 0 = x at *
      generalize hh : halves (xs.take k) = hs at *
      have HX := Lib.hid hx; have HH := Lib.hid hh
      clear hown hbel hx hh hc
      unfold maxLen at hc2
      go_wp2_with (refine append_four (o := ⟨some 31, _, _, _, _, _⟩) rfl _ _ rfl W.heap.size _ (.slice (some ⟨wr.heap.size, 0, none⟩) 4 4) hs (quad x) rfl rfl (HO.out.alloc _) (by first | exact sl_four wr _ _ _ _ x (uv0 x) (uv1 x) (uv2 x) (uv3 x) | exact sl_four wr _ _ _ _ x (uw0 x) (uw1 x) (uw2 x) (uw3 x)) (by have := HHL.out; omega) (by have := HB.out.size; simp; omega) ?_; intro v' w1 hown1 hg1)
      have HO3 := Lib.hid hown1
      have HB3 := Lib.hid (below_own (HB.out.alloc HB.out.size _) (HO.out.alloc _) hg1 (by have := HB.out.size; simp; omega))
      clear hown1 hg1
      refine ⟨⟨k + 1, by omega, by go_num, ?_, HB3.out⟩, by simp [intOf]; omega⟩
      rw [HHS.out]
      exact HO3.out
    · have hkl' : k = xs.length := by omega
      have HO3 : Hid (Sl wr .u16 _ (halves xs)) := Lib.hid (by
        rw [hkl', List.take_length] at hown
        exact sl_own hown (by rw [length_halves]; omega))
      have q0 := cell_to hbel p0 (by omega)
      have HR := Lib.hid ((hbel.block _ hsz).trans H2.out)
      have B1 := below_of bel hbel
      have HV := val_halves HL.out
      clear hown hkl' hbel
      go_wp2_with fail
      refine (make_any n _ (halves xs) wr HO3.out (lim_halves xs)).mono ?_
      rintro e w2 ⟨v2, rfl, hz, hb2⟩
      have hR := (hb2.block _ (size_to HB.out hsz)).trans HR.out
      obtain ⟨k0, k1, g0, g1, hlt⟩ := blk2 hR
      obtain ⟨n2, a2, l2, c2, rfl⟩ := hz.shape
      replace hz := hz.below hb2
      rw [HV] at hz
      have HZ := Lib.hid (hz.far (y0 := .bool n2) (y1 := .slice a2 l2 c2) hR)
      have B2 := below_of B1 hb2
      clear hz HV
      go_wp2
      refine bodyPost_ret (v := .agg #[.bool n2, .slice a2 l2 c2]) ?_ rfl ⟨_, rfl, HZ.out, (B2.setCell (p := ⟨w.heap.size + 1, 0, none⟩) (Nat.le_add_right _ _) _).setCell (p := ⟨w.heap.size + 1, 1, none⟩) (Nat.le_add_right _ _) _⟩
      simp [results, Tryz.results40, go_sem, *]
end Go.Proofs.YtehdfkafdpfdnaaGreatDoor

/- tribunalref02: To, Out, Minus, Small1, Same. -/
namespace Go.Proofs.YtehdfkafdpfdnaaGreatDoor
open Go.RowKit Mth

/-- four digits, from the top, the first r of them -/
def hp (hs : List Nat) (i : Nat) : Nat → Nat
  | 0 => 0
  | r + 1 => hp hs i r * 65536 + hs.getD (i + (3 - r)) 0
/-- an Int, canonical, wherever it lies -/
def IntK (w : World) (v : Value) (z : Int) : Prop := ∃ u, v = .agg #[.bool (sgn z), u] ∧ Num w u z.natAbs
def gs (hs : List Nat) (m : Nat) : List Nat := (List.range m).map (fun j => hp hs (4 * j) 4)
theorem val_take_succ' (xs : List Nat) (n : Nat) : val B16 (xs.take (n + 1)) = val B16 (xs.take n) + B16 ^ n * xs.getD n 0 := by
  by_cases h : n < xs.length
  · exact val_take_succ B16 xs n h
  · rw [List.take_of_length_le (by omega), List.take_of_length_le (by omega), getD_ge _ _ (by omega)]; simp
theorem Num.far {w : World} {v y : Value} {n R j : Nat} (h : Num w v n) (hne : ∀ b off k c, v = .slice (some ⟨b, off, none⟩) k c → b ≠ R) : Num (w.setCell ⟨R, j, none⟩ y) v n := by
  obtain ⟨ys, h1, h2⟩ := h
  exact ⟨ys, h1.set_far (fun b off cap e _ => hne b off _ cap e), h2⟩
end Go.Proofs.YtehdfkafdpfdnaaGreatDoor

/- tribunalref02: Out, Minus, Small1. -/
namespace Go.Proofs.YtehdfkafdpfdnaaGreatDoor
open Go.RowKit Mth

theorem IntK.below {w w' : World} {v : Value} {z : Int} (h : IntK w v z) (hb : Below w.heap.size w w') : IntK w' v z := by
  obtain ⟨u, h1, h2⟩ := h; exact ⟨u, h1, h2.below hb⟩
theorem IntK.shape {w : World} {v : Value} {z : Int} (h : IntK w v z) : ∃ n ao k c, v = .agg #[.bool n, .slice ao k c] := by
  obtain ⟨u, rfl, ys, h1, _⟩ := h
  obtain ⟨ao, c, rfl⟩ := h1.shape
  exact ⟨_, _, _, _, rfl⟩
theorem IntK.far {w : World} {v y0 y1 : Value} {z : Int} {R : Nat} {T : TypeId} {x : Bool} {ao : Option Addr} {n c : Nat} (h : IntK w v z) (hR : w.heap[R]? = some (.cells #[.bool x, .slice ao n c] T (0, 0))) : IntK ((w.setCell ⟨R, 0, none⟩ y0).setCell ⟨R, 1, none⟩ y1) v z := by
  obtain ⟨u, e, ys, h1, h2⟩ := h
  have hne : ∀ b off cap, u = .slice (some ⟨b, off, none⟩) ys.length cap → 0 < ys.length → b ≠ R := fun b off cap e hp => h1.ne hR e hp
  exact ⟨u, e, ys, (h1.set_far hne).set_far hne, h2⟩
theorem IntC.k {w : World} {base : Nat} {v : Value} {z : Int} (h : IntC w base v z) : IntK w v z := by
  obtain ⟨u, h1, h2⟩ := h; exact ⟨u, h1, h2.num⟩
theorem ZV.long {w : World} {n : Bool} {ao : Option Addr} {k c : Nat} {z : Int} (h : ZV w (.agg #[.bool n, .slice ao k c]) z) : 16384 < k ↔ Big ≤ z.natAbs := by
  obtain ⟨_, ys, h1, h2, h3, h4, rfl⟩ := h.parts
  rw [← h4]; exact hlong_iff h2 h3
end Go.Proofs.YtehdfkafdpfdnaaGreatDoor
