/- Package whole: addTo, less, plus: sums and differences in place. -/
import Derived.Test.YtckmpnfadpnaeaaDoorZF
import Derived.Test.YtckmpnfadpnaeaaDoorPA
import Derived.Maps.AppendAt
set_option linter.unusedVariables false
set_option linter.unusedSimpArgs false
namespace Go.Proofs.YtckmpnfadpnaeaaDoor
open Go.RowKit Mth

/-- what addTo's loops hold -/
def PutW (w wr : World) (g : Nat) (pre : List Value) (xs b : List Nat) (post : List Value) (c i : Value) (least most : Nat) : Prop :=
  ∃ (k cc : Nat) (ys : List Nat), least ≤ k ∧ k ≤ most ∧ i = .int .i64 k ∧ c = .int .u64 (cc : Int) ∧ PutT xs ys 0 b k cc ∧ Mid wr g pre ys post ∧ w.grownBy wr (some g)
theorem putT_step0 {R R' b : List Nat} {k c : Nat} (h : PutT R R' 0 b k c) (lb : Lim B64 b) (hk : k < R.length) : PutT R (R'.set k (aLo (R'.getD k 0) (b.getD k 0) c)) 0 b (k + 1) (aHi (R'.getD k 0) (b.getD k 0) c) := by
  have := putT_step h lb (show 0 + k < R.length by omega)
  simpa only [Nat.zero_add] using this

set_option maxHeartbeats 2000000 in
set_option maxRecDepth 100000 in
theorem waddTo_any (g off cap : Nat) (pre post : List Value) (xs b : List Nat) (bv : Value) (w : World) (hoff : pre.length = off) (hM : Mid w g pre xs post) (lx : Lim B64 xs) (hb : Sl w .u64 bv b) (lb : Lim B64 b) (hne : inBlock bv ≠ some g ∨ b = []) (hlen : b.length ≤ xs.length)
    (hcap : xs.length ≤ cap) (hm : cap ≤ maxLen) (_hxl : xs.length ≤ 16777217) (_ho : off ≤ 16777217) :
    Calls Tryd.prog 89 #[.slice (some ⟨g, off, none⟩) xs.length cap, bv] w fun e w' => ∃ (ys : List Nat) (c : Nat), e = .returned (.bool ((c : Int) != 0)) ∧ Mid w' g pre ys post ∧ w.grownBy w' (some g) ∧ PutT xs ys 0 b xs.length c := by
  obtain ⟨ao, cap2, rfl, h1, h2, h3, h4, h5⟩ := hb
  have HO := Lib.hid hoff; have H5 := Lib.hid h5; have HM := Lib.hid hM; have LX := Lib.hid lx; have LB := Lib.hid lb; have HNE := Lib.hid hne
  unfold maxLen at h2 hm
  clear h3 h4 h5 hM lx lb hne hoff
  go_enter Tryd.func89, Tryd.ntmps89
  go_wp2
  go_loopw [5, 11] (fun c i wr => PutW w wr g pre xs b post c i 0 b.length) (fun _ i _ => b.length - (intOf i).toNat)
  case atStart => exact ⟨0, 0, xs, Nat.le_refl _, Nat.zero_le _, rfl, rfl, putT_zero 0 b LX.out, HM.out, World.grownBy.refl _ _⟩
  case round =>
    obtain ⟨k, c, ys, _, hk, rfl, rfl, hT, hrow, hgr⟩ := hrel
    have HT := Lib.hid hT; have HROW := Lib.hid hrow; have HG := Lib.hid hgr
    by_cases hlt : k < b.length
    · obtain ⟨bb, boff, rfl, hblt, hc⟩ := H5.out (by omega)
      have hne : bb ≠ g := by
        rcases HNE.out with h | h
        · simpa [inBlock] using h
        · subst h; simp at hlt
      have hcb : wr.cell? ⟨bb, boff + k, none⟩ = some (.int .u64 ((b.getD k 0 : Nat) : Int)) := hgr.cell (hc k hlt) (by simpa using hne)
      have hky : k < ys.length := by rw [hT.len]; omega
      have hcr : wr.cell? ⟨g, off + k, none⟩ = some (.int .u64 ((ys.getD k 0 : Nat) : Int)) := by rw [← HO.out]; exact hrow.cell hky
      have hfr : wr.frozen? ⟨g, off + k, none⟩ = false := hrow.free _
      have HST := Lib.hid (putT_step0 hT LB.out (show k < xs.length by omega))
      have hc1 := hT.cle
      have HKY := Lib.hid hky
      generalize b.getD k 0 = y at *
      generalize ys.getD k 0 = x at *
      have hsub := fun w => add64_run x y c hc1 w
      have hkr : k < xs.length := by omega
      clear hc hT hrow hgr hne hky
      go_wp2
      go_roundw
      case rel =>
        have hset := HROW.out.set HKY.out (aLo x y c)
        rw [HO.out] at hset
        exact ⟨k + 1, aHi x y c, _, Nat.zero_le _, by omega, by go_num, rfl, HST.out, hset.1, grown_trans' HG.out hset.2⟩
      case measure => simp [intOf]; omega
    · have hkb : k = b.length := by omega
      have HKB := Lib.hid hkb
      clear hT hrow hgr hkb
      obtain ⟨wo, rfl⟩ : ∃ wo : World, wo = wr := ⟨_, rfl⟩
      go_wp2
      go_loopw [5, 8] (fun c i wr => PutW w wr g pre xs b post c i b.length xs.length) (fun _ i _ => xs.length - (intOf i).toNat)
      case atStart => exact ⟨b.length, c, ys, Nat.le_refl _, hlen, rfl, rfl, by rw [← HKB.out]; exact HT.out, HROW.out, HG.out⟩
      case round =>
        obtain ⟨k2, c2, ys2, hlo, hhi, rfl, rfl, hT, hrow, hgr⟩ := hrel
        have HT2 := Lib.hid hT; have HROW2 := Lib.hid hrow; have HG2 := Lib.hid hgr
        by_cases hc0 : c2 = 0
        · have hd : ((c2 : Int) != 0) = false := by rw [hc0]; rfl
          subst hc0
          have HE := Lib.hid (by have := putT_more hT hlo (xs.length - k2) (by omega); rwa [show k2 + (xs.length - k2) = xs.length by omega] at this)
          clear hT hrow hgr
          go_wp2
          go_ret
          exact ⟨ys2, 0, rfl, HROW2.out, HG2.out, HE.out⟩
        · have hd : ((c2 : Int) != 0) = true := by rw [bne_iff_ne]; omega
          by_cases hend : k2 < xs.length
          · have hky : k2 < ys2.length := by rw [hT.len]; omega
            have hcr : wr.cell? ⟨g, off + k2, none⟩ = some (.int .u64 ((ys2.getD k2 0 : Nat) : Int)) := by rw [← HO.out]; exact hrow.cell hky
            have hfr : wr.frozen? ⟨g, off + k2, none⟩ = false := hrow.free _
            have HST := Lib.hid (putT_step0 hT LB.out hend)
            have hc1 := hT.cle
            have HKY := Lib.hid hky
            rw [getD_ge b k2 hlo] at HST
            generalize ys2.getD k2 0 = x at *
            have hsub : ∀ w, (callFunc 103 #[.int .u64 (x : Int), .int .u64 0, .int .u64 (c2 : Int)]).run Tryd.prog w = .ok (.value (.tuple #[.int .u64 ((aLo x 0 c2 : Nat) : Int), .int .u64 ((aHi x 0 c2 : Nat) : Int)])) w := fun w => add64_run x 0 c2 hc1 w
            clear hT hrow hgr hc0 hky
            go_wp2
            go_roundw
            case rel =>
              have hset := HROW2.out.set HKY.out (aLo x 0 c2)
              rw [HO.out] at hset
              exact ⟨k2 + 1, aHi x 0 c2, _, by omega, by omega, by go_num, rfl, HST.out, hset.1, grown_trans' HG2.out hset.2⟩
            case measure => simp [intOf]; omega
          · obtain rfl : k2 = xs.length := by omega
            clear hT hrow hgr hc0
            go_wp2
            go_ret
            exact ⟨ys2, c2, by rw [hd]; rfl, HROW2.out, HG2.out, HT2.out⟩

/-- what less's loops hold -/
def LessW (w wr : World) (g : Nat) (xs b : List Nat) (post : List Value) (c i : Value) (least most : Nat) : Prop :=
  ∃ (k cc : Nat) (ys : List Nat), least ≤ k ∧ k ≤ most ∧ i = .int .i64 k ∧ c = .int .u64 (cc : Int) ∧ TakeT xs ys b k cc ∧ Mid wr g [] ys post ∧ w.grownBy wr (some g)
theorem mid_sl {w : World} {g cap : Nat} {xs : List Nat} {post : List Value} (h : Mid w g [] xs post) (hc : xs.length ≤ cap) (hm : cap ≤ maxLen) (hl : xs.length ≤ 16777216) : Sl w .u64 (.slice (some ⟨g, 0, none⟩) xs.length cap) xs :=
  ⟨_, cap, rfl, hc, hm, hl, (fun e => by cases e), fun _ => ⟨g, 0, rfl, h.lt, fun _ hj => h.cell hj⟩⟩
theorem mid_ow {w : World} {g base cap n : Nat} {xs : List Nat} {post : List Value} (h : Mid w g [] xs post) (hb : base ≤ g) (hn : n ≤ xs.length) (hc : n ≤ cap) (hm : cap ≤ maxLen) (hl : n ≤ 16777216) (lx : Lim B64 xs) (ht : Top (xs.take n)) : Ow w base (.slice (some ⟨g, 0, none⟩) n cap) (val B64 (xs.take n)) := by
  have e : (xs.take n).length = n := by rw [List.length_take]; omega
  refine .inr ⟨g, cap, _, xs.take n, by rw [e], h, hb, by omega, hm, by rw [e]; simp [length_cellsOf]; omega, ?_, by omega, lim_take (by have := B64_pos; omega) lx _, ht, rfl⟩
  rw [e]
  simp only [List.nil_append]
  rw [List.take_append_of_le_length (by rw [length_cellsOf]; exact hn)]
  simp [cellsOf, List.map_take]
theorem append_one {w : World} {ops : Array Oper} {rest : List Oper} {o : Oper} {a : Act} {Q : Exit → Act → World → Prop} (hgd : o.guard = none) (s x : Operand)
    (ho : o.op = .call { callee := .builtin .append, args := #[s, x], argTypes := #[52, 52] }) (base : Nat) (v : Value) (xs : List Nat) (y : Nat) (ad : Addr)
    (hs : a.eval s = v) (hx : a.eval x = .slice (some ad) 1 1) (hown : w.ownsRow base 65 1 v xs.length (cellsOf .u64 xs)) (hc : w.cell? ad = some (.int .u64 ((y : Nat) : Int))) (hlen : xs.length ≤ 16777216) (hbase : base ≤ w.heap.size)
    (h : ∀ v' w', w'.ownsRow base 65 1 v' (xs ++ [y]).length (cellsOf .u64 (xs ++ [y])) → w.grownBy w' v.ownBlock → (v'.ownBlock = v.ownBlock ∨ v'.ownBlock = some w.heap.size) → wpList Tryd.prog ops Q rest (a.put o.dst v') w') : wpList Tryd.prog ops Q (o :: rest) a w := by
  obtain ⟨i0, hi, hz0, hz1, hz2⟩ := info_parts info_u64
  refine wpList_append_own_at w hgd s x 52 ho base 65 i0 _ 1 8 Tryd.underlying52 hi hz0 hz1 hz2 rfl (by decide) v _ _ hs hown ad 1 1 [.int .u64 ((y : Nat) : Int)] hx rfl ?_ ?_
    (by unfold maxLen; omega) (by omega) hbase ?_
  · intro j u hj
    match j, hj with
    | 0, hj => simp at hj; subst hj; simpa [Addr.add] using hc
  · intro u hu
    simp at hu; subst hu; rfl
  · intro v' w' h2 h3 _ hat
    refine h v' w' ?_ h3 hat
    rw [cellsOf_append, List.length_append]
    exact h2

theorem own_form {w : World} {base : Nat} {v : Value} {xs : List Nat} (h : w.ownsRow base 65 1 v xs.length (cellsOf .u64 xs)) :
    (v = .slice none 0 0 ∧ xs = []) ∨ ∃ g cap post, v = .slice (some ⟨g, 0, none⟩) xs.length cap ∧ base ≤ g ∧ xs.length ≤ cap ∧ cap ≤ maxLen ∧ Mid w g [] xs post ∧ xs.length + post.length = cap := by
  rcases h.2 with ⟨rfl, h0⟩ | ⟨g, cap, cur, rfl, hb, hg, hnc, hcm, hcs, htake⟩
  · exact .inl ⟨rfl, List.eq_nil_of_length_eq_zero h0⟩
  · rw [Nat.mul_one] at htake hcs
    refine .inr ⟨g, cap, cur.toList.drop xs.length, rfl, hb, hnc, hcm, ?_, by rw [List.length_drop]; simp only [Array.length_toList]; omega⟩
    unfold Mid
    rw [hg, List.nil_append, ← htake, List.take_append_drop]
theorem waddTo_nil (ao : Option Addr) (c : Nat) (w : World) (_hm : c ≤ maxLen) : Calls Tryd.prog 89 #[.slice none 0 0, .slice ao 0 c] w fun e w' => e = .returned (.bool false) ∧ w = w' := by
  unfold maxLen at _hm
  go_enter Tryd.func89, Tryd.ntmps89
  go_wp2
  refine wp_loop_rounds 1 ?_
  rw [rounds_succ]
  go_wp2
  refine wp_loop_rounds 1 ?_
  rw [rounds_succ]
  go_wp2
  go_ret
  exact ⟨rfl, rfl⟩
theorem lim_append_zeros {xs : List Nat} (h : Lim B64 xs) (n : Nat) : Lim B64 (xs ++ List.replicate n 0) := by
  intro j
  rcases Nat.lt_or_ge j xs.length with h1 | h1
  · have := h j
    simp only [List.getD_eq_getElem?_getD, List.getElem?_append_left h1] at this ⊢
    exact this
  · simp only [List.getD_eq_getElem?_getD, List.getElem?_append_right h1]
    have := getD_replicate n (j - xs.length)
    rw [List.getD_eq_getElem?_getD] at this
    rw [this]; have := B64_pos; omega
theorem val_append_zeros (xs : List Nat) (n : Nat) : val B64 (xs ++ List.replicate n 0) = val B64 xs := by
  rw [val_append, val_zero (xs := List.replicate n 0) (getD_replicate n)]; simp
theorem own_shape {w : World} {base n : Nat} {v : Value} {xs : List Value} (h : w.ownsRow base 65 1 v n xs) : ∃ ao c, v = .slice ao n c ∧ n ≤ c ∧ c ≤ maxLen := by
  rcases h.2 with ⟨rfl, rfl⟩ | ⟨g, cap, cur, rfl, _, _, h1, h2, _⟩
  · exact ⟨_, _, rfl, by omega, by unfold maxLen; omega⟩
  · exact ⟨_, _, rfl, h1, h2⟩
/-- a row that grew, or moved to a new block, and was then written -/
theorem grown_same {a b c : World} {v v1 : Value} (h : a.grownBy b v.ownBlock) (k : b.grownBy c v1.ownBlock) (hat : v1.ownBlock = v.ownBlock ∨ v1.ownBlock = some a.heap.size) : a.grownBy c v.ownBlock := by
  refine ⟨k.os.trans h.os, k.tape.trans h.tape, k.output.trans h.output, Nat.le_trans h.size k.size, fun i hi hne => (k.block i (Nat.lt_of_lt_of_le hi h.size) ?_).trans (h.block i hi hne)⟩
  rcases hat with e | e
  · rw [e]; exact hne
  · rw [e]; intro e2; have := Option.some.inj e2; omega
theorem at_one {v v1 : Value} {n : Nat} (h : v1.ownBlock = v.ownBlock ∨ v1.ownBlock = some n) : ∀ k, v1.ownBlock = some k → v.ownBlock = some k ∨ n ≤ k := by
  intro k hk
  rcases h with e | e
  · exact .inl (by rw [← e]; exact hk)
  · rw [e] at hk; exact .inr (by have := Option.some.inj hk; omega)
theorem at_two {v v1 v5 : Value} {n m : Nat} (h : v1.ownBlock = v.ownBlock ∨ v1.ownBlock = some n) (h5 : v5.ownBlock = v1.ownBlock ∨ v5.ownBlock = some m) (hm : n ≤ m) : ∀ k, v5.ownBlock = some k → v.ownBlock = some k ∨ n ≤ k := by
  intro k hk
  rcases h5 with e | e
  · rw [e] at hk; exact at_one h k hk
  · rw [e] at hk; exact .inr (by have := Option.some.inj hk; omega)
theorem put_end {xs ys b : List Nat} {c : Nat} (h : PutT xs ys 0 b xs.length c) (hl : b.length ≤ xs.length) : val B64 ys + B64 ^ xs.length * c = val B64 xs + val B64 b := by
  have e := h.eq
  rw [seg_all, List.take_of_length_le hl] at e
  have e2 := seg_all ys
  rw [h.len] at e2
  rw [e2] at e
  exact e
theorem sum_top0 {xs ys b : List Nat} (h : PutT xs ys 0 b xs.length 0) (hl : b.length ≤ xs.length) (ht : Top xs ∨ (b.length = xs.length ∧ Top b)) : Top ys := by
  have e := put_end h hl
  refine top_of_val h.lim ?_
  rw [h.len]
  rcases Nat.eq_zero_or_pos xs.length with h0 | h0
  · exact .inl h0
  · right
    rcases ht with ht | ⟨hb, ht⟩
    · have := val_ge_top (B := B64) ht h0; omega
    · have := val_ge_top (B := B64) ht (by omega); rw [hb] at this; omega

/-- addTo on a row of the call's own -/
theorem waddTo_own (base : Nat) (v : Value) (xs b : List Nat) (bv : Value) (w : World) (hown : w.ownsRow base 65 1 v xs.length (cellsOf .u64 xs)) (lx : Lim B64 xs) (hb : Sl w .u64 bv b) (lb : Lim B64 b) (hne : inBlock bv ≠ v.ownBlock ∨ b = []) (hlen : b.length ≤ xs.length) (hl : xs.length ≤ 16777000) :
    Calls Tryd.prog 89 #[v, bv] w fun e w' => ∃ (ys : List Nat) (c : Nat), e = .returned (.bool ((c : Int) != 0)) ∧ w'.ownsRow base 65 1 v ys.length (cellsOf .u64 ys) ∧ w.grownBy w' v.ownBlock ∧ PutT xs ys 0 b xs.length c := by
  rcases own_form hown with ⟨rfl, rfl⟩ | ⟨g, cap, post, rfl, h1, h2, h3, h4, h5⟩
  · obtain rfl : b = [] := List.eq_nil_of_length_eq_zero (by simpa using hlen)
    obtain ⟨ao, c, rfl, _, hm, _⟩ := hb
    exact (waddTo_nil ao c w hm).mono fun e w' ⟨he, hw⟩ => ⟨[], 0, by rw [he]; rfl, by subst hw; exact hown, by subst hw; exact World.grownBy.refl _ _, putT_zero 0 [] lx⟩
  · refine (waddTo_any g 0 cap [] post xs b bv w rfl h4 lx hb lb ?_ hlen h2 h3 (by omega) (by omega)).mono ?_
    · rcases hne with h | h
      · exact .inl (by simpa [Value.ownBlock] using h)
      · exact .inr h
    · rintro e w' ⟨ys, c, he, hM, hG, hP⟩
      have hyl := hP.len
      have := own_mid (base := base) (cap := cap) hM h1 (by omega) h3 (by omega)
      rw [hyl] at this
      exact ⟨ys, c, he, by rw [hyl]; exact this, by simpa [Value.ownBlock] using hG, hP⟩

set_option maxHeartbeats 2000000 in
set_option maxRecDepth 100000 in
theorem plus_any (base : Nat) (v : Value) (xs b : List Nat) (bv : Value) (w : World) (hown : w.ownsRow base 65 1 v xs.length (cellsOf .u64 xs)) (lx : Lim B64 xs) (tx : Top xs) (hb : Sl w .u64 bv b) (lb : Lim B64 b) (tb : Top b) (hne : inBlock bv ≠ v.ownBlock ∨ b = []) (hl : xs.length ≤ 8000000) (hl2 : b.length ≤ 8000000) (hbase : base ≤ w.heap.size) :
    Calls Tryd.prog 68 #[v, bv] w fun e w' => ∃ v' zs, e = .returned v' ∧ w'.ownsRow base 65 1 v' zs.length (cellsOf .u64 zs) ∧ w.grownBy w' v.ownBlock ∧ Lim B64 zs ∧ Top zs ∧ val B64 zs = val B64 xs + val B64 b ∧ (∀ k, v'.ownBlock = some k → v.ownBlock = some k ∨ w.heap.size ≤ k) := by
  have HO := Lib.hid hown; have LX := Lib.hid lx; have TX := Lib.hid tx; have HS := Lib.hid hb; have LB := Lib.hid lb; have TB := Lib.hid tb; have HNE := Lib.hid hne
  obtain ⟨ao, cap, rfl, hc1, hc2⟩ : ∃ ao cap, v = .slice ao xs.length cap ∧ xs.length ≤ cap ∧ cap ≤ maxLen := by
    rcases hown.2 with ⟨rfl, h0⟩ | ⟨g, cap, cur, rfl, _, _, h1, h2, _⟩
    · exact ⟨none, 0, by rw [h0], by omega, by unfold maxLen; omega⟩
    · exact ⟨_, _, rfl, h1, h2⟩
  obtain ⟨ao2, cap2, rfl⟩ := hb.shape
  unfold maxLen at hc2
  clear hown lx tx hb lb tb hne
  by_cases hmiss : xs.length < b.length
  · obtain ⟨n, hn⟩ : ∃ n, b.length = xs.length + n := ⟨b.length - xs.length, by omega⟩
    have hn0 : 0 < n := by omega
    have hw : IntKind.i64.wrap ((b.length : Int) - (xs.length : Int)) = (n : Int) := by rw [IntKind.wrap_i64]; omega
    have hpos : decide ((0 : Int) < (n : Int)) = true := decide_eq_true (by omega)
    have hn2 : n ≤ 8000000 := by omega
    have hXL : (xs ++ List.replicate n 0).length = b.length := by simp; omega
    have HN := Lib.hid hn; have HXL := Lib.hid hXL
    clear hmiss hn hXL
    go_enter Tryd.func68, Tryd.ntmps68
    go_wp2_with (refine append_zeros (o := ⟨some 15, _, _, _, _, _⟩) rfl _ _ rfl base _ xs n rfl rfl HO.out hn0 (by omega) hbase ?_; intro v1 w1 ho1 hg1 hat1)
    have hne1 : inBlock (Value.slice ao2 b.length cap2) ≠ v1.ownBlock ∨ b = [] := by
      rcases hat1 with e | e
      · rw [e]; exact HNE.out
      · left
        rw [e]
        intro e2
        obtain ⟨b', o', c', e3, _, _, hlt', _⟩ := HS.out.pos (by have := HN.out; omega)
        rw [e3] at e2
        have e4 : b' = w.heap.size := Option.some.inj e2
        omega
    have A1 := Lib.hid (waddTo_own base v1 (xs ++ List.replicate n 0) b _ w1 ho1 (lim_append_zeros LX.out n) (HS.out.grown hg1 HNE.out) LB.out hne1 (by rw [HXL.out]; exact Nat.le_refl _) (by rw [HXL.out]; omega))
    have HG1 := Lib.hid hg1; have HAT := Lib.hid hat1
    rw [HXL.out] at ho1
    obtain ⟨a3, c3, rfl, hd1, hd2⟩ := own_shape ho1
    unfold maxLen at hd2
    clear ho1 hg1 hne1 hat1
    go_wp2_with fail
    refine A1.out.mono ?_
    rintro e w2 ⟨ys, c, rfl, ho2, hg2, hP⟩
    have HO2 := Lib.hid ho2; have HP := Lib.hid hP; have HG2 := Lib.hid hg2
    clear ho2 hg2 hP
    by_cases hc0 : c = 0
    · subst hc0
      have hd : (((0 : Nat) : Int) != 0) = false := rfl
      go_wp2
      go_ret
      exact ⟨_, ys, rfl, HO2.out, grown_same HG1.out HG2.out HAT.out, HP.out.lim, sum_top0 HP.out (by rw [HXL.out]; exact Nat.le_refl _) (.inr ⟨HXL.out.symm, TB.out⟩), by
        have := put_end HP.out (by rw [HXL.out]; exact Nat.le_refl _)
        rw [val_append_zeros] at this; omega, at_one HAT.out⟩
    · have hd : ((c : Int) != 0) = true := by rw [bne_iff_ne]; omega
      obtain rfl : c = 1 := by have := HP.out.cle; omega
      have hyl : ys.length ≤ 16777216 := by have := HP.out.len; rw [HXL.out] at this; omega
      have hbw : base ≤ w2.heap.size := Nat.le_trans hbase (Nat.le_trans HG1.out.size HG2.out.size)
      go_wp2_with (refine append_one (o := ⟨some 21, _, _, _, _, _⟩) rfl _ _ rfl base _ ys 1 ⟨w2.heap.size, 0, none⟩ rfl rfl (HO2.out.alloc _) (World.cell?_alloc_new _ _ _ _) hyl (by simp; omega) ?_; intro v5 w5 ho5 hg5 hat5)
      go_ret
      exact ⟨_, ys ++ [1], rfl, ho5, grown_same HG1.out (grown_trans' HG2.out (grown_trans' (grown_of_below ((Below.refl _ _).alloc (Nat.le_refl _) _) _) hg5)) HAT.out, lim_snoc HP.out.lim (by unfold B64; omega), top_snoc (by omega), by
        have := put_end HP.out (by rw [HXL.out]; exact Nat.le_refl _)
        have hl2 := HP.out.len
        rw [val_append_zeros] at this
        rw [val_snoc, hl2]; omega, at_two HAT.out hat5 (by have := HG1.out.size; have := HG2.out.size; simp; omega)⟩
  · have hbl : b.length ≤ xs.length := by omega
    have HBL := Lib.hid hbl
    have A1 := Lib.hid (waddTo_own base _ xs b _ w HO.out LX.out HS.out LB.out HNE.out hbl (by omega))
    clear hmiss
    go_enter Tryd.func68, Tryd.ntmps68
    go_wp2_with fail
    refine A1.out.mono ?_
    rintro e w2 ⟨ys, c, rfl, ho2, hg2, hP⟩
    have HO2 := Lib.hid ho2; have HP := Lib.hid hP; have HG2 := Lib.hid hg2
    clear ho2 hg2 hP
    by_cases hc0 : c = 0
    · subst hc0
      have hd : (((0 : Nat) : Int) != 0) = false := rfl
      go_wp2
      go_ret
      exact ⟨_, ys, rfl, HO2.out, HG2.out, HP.out.lim, sum_top0 HP.out HBL.out (.inl TX.out), by
        have := put_end HP.out HBL.out
        omega, fun k hk => .inl hk⟩
    · have hd : ((c : Int) != 0) = true := by rw [bne_iff_ne]; omega
      obtain rfl : c = 1 := by have := HP.out.cle; omega
      have hyl : ys.length ≤ 16777216 := by have := HP.out.len; omega
      have hbw : base ≤ w2.heap.size := Nat.le_trans hbase HG2.out.size
      go_wp2_with (refine append_one (o := ⟨some 21, _, _, _, _, _⟩) rfl _ _ rfl base _ ys 1 ⟨w2.heap.size, 0, none⟩ rfl rfl (HO2.out.alloc _) (World.cell?_alloc_new _ _ _ _) hyl (by simp; omega) ?_; intro v5 w5 ho5 hg5 hat5)
      go_ret
      exact ⟨_, ys ++ [1], rfl, ho5, grown_trans' HG2.out (grown_trans' (grown_of_below ((Below.refl _ _).alloc (Nat.le_refl _) _) _) hg5), lim_snoc HP.out.lim (by unfold B64; omega), top_snoc (by omega), by
        have := put_end HP.out HBL.out
        have hl2 := HP.out.len
        rw [val_snoc, hl2]; omega, at_two (.inl rfl) hat5 (by have := HG2.out.size; simp; omega)⟩
end Go.Proofs.YtckmpnfadpnaeaaDoor
