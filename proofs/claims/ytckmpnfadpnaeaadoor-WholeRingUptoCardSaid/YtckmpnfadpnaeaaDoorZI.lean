/- Package whole: a tally, sums of two numbers. -/
import Derived.Test.YtckmpnfadpnaeaaDoorZH
set_option linter.unusedVariables false
set_option linter.unusedSimpArgs false
namespace Go.Proofs.YtckmpnfadpnaeaaDoor
open Go.RowKit Mth

/-- a sum in the making, in the block g: the numbers not below 0 make P, the others N, m numbers in all -/
def TalO (w : World) (base g m P N : Nat) : Prop := ∃ (u d : Value) (xs ys : List Nat), w.heap[g]? = some (.cells #[u, d] 67 (0, 0)) ∧ w.ownsRow base 65 1 u xs.length (cellsOf .u64 xs) ∧ w.ownsRow base 65 1 d ys.length (cellsOf .u64 ys) ∧
  Lim B64 xs ∧ Top xs ∧ val B64 xs = P ∧ Lim B64 ys ∧ Top ys ∧ val B64 ys = N ∧ (∀ k, u.ownBlock = some k → d.ownBlock ≠ some k) ∧ P ≤ m * HugeN ∧ N ≤ m * HugeN
theorem own_base' {w : World} {base n : Nat} {v : Value} {xs : List Value} (h : w.ownsRow base 65 1 v n xs) (k : Nat) (hk : v.ownBlock = some k) : base ≤ k ∧ k < w.heap.size ∧ ∃ cur, w.heap[k]? = some (.cells cur 65 (0, 0)) := by
  rcases h.2 with ⟨rfl, _⟩ | ⟨g, cap, cur, rfl, hb, hg, _⟩
  · cases hk
  · obtain rfl := Option.some.inj hk
    exact ⟨hb, (Array.getElem?_eq_some_iff.1 hg).1, cur, hg⟩
theorem own_other {w w' : World} {base n : Nat} {v : Value} {xs : List Value} {row : Option Nat} (h : w.ownsRow base 65 1 v n xs) (hg : w.grownBy w' row) (hne : ∀ k, v.ownBlock = some k → row ≠ some k) : w'.ownsRow base 65 1 v n xs := by
  refine ⟨h.1, ?_⟩
  rcases h.2 with h2 | ⟨g, cap, cur, rfl, hb, hk, h3⟩
  · exact .inl h2
  · exact .inr ⟨g, cap, cur, rfl, hb, (hg.block g (Array.getElem?_eq_some_iff.1 hk).1 (fun e => hne g rfl e.symm)).trans hk, h3⟩
theorem tal_ne {w : World} {base g n : Nat} {v : Value} {xs : List Value} {cs : Array Value} (h : w.ownsRow base 65 1 v n xs) (hg : w.heap[g]? = some (.cells cs 67 (0, 0))) : v.ownBlock ≠ some g := by
  intro e
  obtain ⟨_, _, cur, h2⟩ := own_base' h g e
  rw [hg] at h2
  simp at h2

theorem grown_cell {w : World} {g i : Nat} {x : Value} : w.grownBy (w.setCell ⟨g, i, none⟩ x) (some g) :=
  ⟨rfl, rfl, rfl, by simp, fun k _ hk => heap_setCell_other w ⟨g, i, none⟩ k _ (fun e => hk (by simp [e]))⟩
theorem grown_drew' {w W : World} (h : Below w.heap.size w W) : w.grownBy W.drew none := grown_of_below h.drew none
theorem tal_step1 {w W w' : World} {g base m P N a : Nat} {u d v' : Value} {xs ys zs : List Nat} (HT : w.heap[g]? = some (.cells #[u, d] 67 (0, 0))) (bel : Below w.heap.size w W) (hbg : base ≤ g) (hbase : base ≤ w.heap.size)
    (hu : w.ownsRow base 65 1 u xs.length (cellsOf .u64 xs)) (hd : w.ownsRow base 65 1 d ys.length (cellsOf .u64 ys)) (hdis : ∀ k, u.ownBlock = some k → d.ownBlock ≠ some k) (gu : u.ownBlock ≠ some g) (gd : d.ownBlock ≠ some g)
    (F : Lim B64 xs ∧ Top xs ∧ val B64 xs = P ∧ Lim B64 ys ∧ Top ys ∧ val B64 ys = N ∧ P ≤ m * HugeN ∧ N ≤ m * HugeN ∧ a < HugeN)
    (hg : W.drew.grownBy w' d.ownBlock) (ho : w'.ownsRow base 65 1 v' zs.length (cellsOf .u64 zs)) (hl : Lim B64 zs) (ht : Top zs) (hv : val B64 zs = val B64 ys + a) (hat : ∀ k, v'.ownBlock = some k → d.ownBlock = some k ∨ W.drew.heap.size ≤ k) :
    TalO (w'.setCell ⟨g, 1, none⟩ v') base g (m + 1) P (N + a) ∧ Below base w (w'.setCell ⟨g, 1, none⟩ v') := by
  obtain ⟨lx, tx, ex, ly, ty, ey, hP, hN, ha⟩ := F
  have hlt := (Array.getElem?_eq_some_iff.1 HT).1
  have hsz : w.heap.size ≤ W.drew.heap.size := bel.size
  have g1 : w'.heap[g]? = some (.cells #[u, d] 67 (0, 0)) := (hg.block g (by omega) (fun e => gd e.symm)).trans ((bel.block g hlt).trans HT)
  have hvg : v'.ownBlock ≠ some g := by
    intro e
    rcases hat g e with h | h
    · exact gd h
    · omega
  have hu1 : w'.ownsRow base 65 1 u xs.length (cellsOf .u64 xs) := own_other (own_other hu (grown_drew' bel) (fun _ _ e => by cases e)) hg (fun k hk e => hdis k hk e)
  refine ⟨⟨u, v', xs, zs, by rw [heap_setCell_same w' g 1 _ _ v' g1]; rfl, own_other hu1 grown_cell (fun k hk e => by have := Option.some.inj e; subst this; exact gu hk), own_other ho grown_cell (fun k hk e => by have := Option.some.inj e; subst this; exact hvg hk), lx, tx, ex, hl, ht, by rw [hv, ey], ?_, ?_, ?_⟩, ?_⟩
  · intro k hk e
    rcases hat k e with h | h
    · exact hdis k hk h
    · have := (own_base' hu k hk).2.1; omega
  · rw [Nat.add_mul]; omega
  · rw [Nat.add_mul]; omega
  · have b1 : Below base w w' := (bel.drew.mono hbase).grown hg (Nat.le_trans hbase hsz) (fun k e => (own_base' hd k e).1)
    exact b1.setCell hbg _
theorem tal_step0 {w W w' : World} {g base m P N a : Nat} {u d v' : Value} {xs ys zs : List Nat} (HT : w.heap[g]? = some (.cells #[u, d] 67 (0, 0))) (bel : Below w.heap.size w W) (hbg : base ≤ g) (hbase : base ≤ w.heap.size)
    (hu : w.ownsRow base 65 1 u xs.length (cellsOf .u64 xs)) (hd : w.ownsRow base 65 1 d ys.length (cellsOf .u64 ys)) (hdis : ∀ k, u.ownBlock = some k → d.ownBlock ≠ some k) (gu : u.ownBlock ≠ some g) (gd : d.ownBlock ≠ some g)
    (F : Lim B64 xs ∧ Top xs ∧ val B64 xs = P ∧ Lim B64 ys ∧ Top ys ∧ val B64 ys = N ∧ P ≤ m * HugeN ∧ N ≤ m * HugeN ∧ a < HugeN)
    (hg : W.drew.grownBy w' u.ownBlock) (ho : w'.ownsRow base 65 1 v' zs.length (cellsOf .u64 zs)) (hl : Lim B64 zs) (ht : Top zs) (hv : val B64 zs = val B64 xs + a) (hat : ∀ k, v'.ownBlock = some k → u.ownBlock = some k ∨ W.drew.heap.size ≤ k) :
    TalO (w'.setCell ⟨g, 0, none⟩ v') base g (m + 1) (P + a) N ∧ Below base w (w'.setCell ⟨g, 0, none⟩ v') := by
  obtain ⟨lx, tx, ex, ly, ty, ey, hP, hN, ha⟩ := F
  have hlt := (Array.getElem?_eq_some_iff.1 HT).1
  have hsz : w.heap.size ≤ W.drew.heap.size := bel.size
  have g1 : w'.heap[g]? = some (.cells #[u, d] 67 (0, 0)) := (hg.block g (by omega) (fun e => gu e.symm)).trans ((bel.block g hlt).trans HT)
  have hvg : v'.ownBlock ≠ some g := by
    intro e
    rcases hat g e with h | h
    · exact gu h
    · omega
  have hd1 : w'.ownsRow base 65 1 d ys.length (cellsOf .u64 ys) := own_other (own_other hd (grown_drew' bel) (fun _ _ e => by cases e)) hg (fun k hk e => hdis k e hk)
  refine ⟨⟨v', d, zs, ys, by rw [heap_setCell_same w' g 0 _ _ v' g1]; rfl, own_other ho grown_cell (fun k hk e => by have := Option.some.inj e; subst this; exact hvg hk), own_other hd1 grown_cell (fun k hk e => by have := Option.some.inj e; subst this; exact gd hk), hl, ht, by rw [hv, ex], ly, ty, ey, ?_, ?_, ?_⟩, ?_⟩
  · intro k hk e
    rcases hat k hk with h | h
    · exact hdis k h e
    · have := (own_base' hd k e).2.1; omega
  · rw [Nat.add_mul]; omega
  · rw [Nat.add_mul]; omega
  · have b1 : Below base w w' := (bel.drew.mono hbase).grown hg (Nat.le_trans hbase hsz) (fun k e => (own_base' hu k e).1)
    exact b1.setCell hbg _

set_option maxHeartbeats 2000000 in
set_option maxRecDepth 100000 in
theorem tally_add (g base m P N : Nat) (v : Value) (z : Int) (w : World) (h : TalO w base g m P N) (hv : NuV w v z) (hold : z ≠ 0 → ∀ u b k, v = .agg #[u, b] → inBlock u = some k → k < base) (hz : z.natAbs < HugeN) (hm : m < 16777216) (hbg : base ≤ g) (hbase : base ≤ w.heap.size) :
    Calls Tryd.prog 42 #[.pointer (some ⟨g, 0, none⟩), v] w fun e w' => e = .returned (.tuple #[]) ∧ TalO w' base g (m + 1) (P + (if sgn z = true then 0 else z.natAbs)) (N + (if sgn z = true then z.natAbs else 0)) ∧ Below base w w' := by
  obtain ⟨u, d, xs, ys, hT, hu, hd, lx, tx, ex, ly, ty, ey, hdis, hP, hN⟩ := h
  obtain ⟨bv, rfl, bs, hbs, lb, tb, eb⟩ := hv
  obtain ⟨bo, bc, rfl⟩ := hbs.shape
  obtain ⟨uo, uc, rfl, _, _⟩ := own_shape hu
  obtain ⟨dO, dc, rfl, _, _⟩ := own_shape hd
  have hxl : xs.length ≤ 8000000 := by have := len_huge tx (by rw [ex]; exact hP) (by omega); unfold Lm at this; omega
  have hyl : ys.length ≤ 8000000 := by have := len_huge ty (by rw [ey]; exact hN) (by omega); unfold Lm at this; omega
  have hbl : bs.length ≤ 8000000 := by have := len_huge (m := 1) tb (by rw [eb]; omega) (by omega); unfold Lm at this; omega
  have hbo : bs ≠ [] → ∀ k, inBlock (Value.slice bo bs.length bc) = some k → k < base := fun h0 k => hold (by
    intro e
    have := pos_of_top tb (List.length_pos_iff.2 h0)
    rw [eb, e] at this
    simp at this) _ _ k rfl
  have hne1 : inBlock (Value.slice bo bs.length bc) ≠ (Value.slice uo xs.length uc).ownBlock ∨ bs = [] := by
    by_cases h0 : bs = []
    · exact .inr h0
    · left
      intro e
      obtain ⟨b', o', c', e1, _⟩ := hbs.pos (List.length_pos_iff.2 h0)
      have e2 : inBlock (Value.slice bo bs.length bc) = some b' := by rw [e1]; rfl
      have := hbo h0 b' e2
      have := (own_base' hu b' (by rw [← e, e2])).1
      omega
  have hne2 : inBlock (Value.slice bo bs.length bc) ≠ (Value.slice dO ys.length dc).ownBlock ∨ bs = [] := by
    by_cases h0 : bs = []
    · exact .inr h0
    · left
      intro e
      obtain ⟨b', o', c', e1, _⟩ := hbs.pos (List.length_pos_iff.2 h0)
      have e2 : inBlock (Value.slice bo bs.length bc) = some b' := by rw [e1]; rfl
      have := hbo h0 b' e2
      have := (own_base' hd b' (by rw [← e, e2])).1
      omega
  have hlt := (Array.getElem?_eq_some_iff.1 hT).1
  have PU : Hid (∀ w1, Below w.heap.size w w1 → Calls Tryd.prog 68 #[.slice uo xs.length uc, .slice bo bs.length bc] w1 fun e w' => ∃ v' zs, e = .returned v' ∧ w'.ownsRow base 65 1 v' zs.length (cellsOf .u64 zs) ∧ w1.grownBy w' (Value.slice uo xs.length uc).ownBlock ∧ Lim B64 zs ∧ Top zs ∧ val B64 zs = val B64 xs + val B64 bs ∧ (∀ k, v'.ownBlock = some k → (Value.slice uo xs.length uc).ownBlock = some k ∨ w1.heap.size ≤ k)) :=
    Lib.hid (fun w1 hb => plus_any base _ xs bs _ w1 (own_other hu (grown_of_below hb none) (fun _ _ e => by cases e)) lx tx (hbs.below hb) lb tb hne1 hxl hbl (Nat.le_trans hbase hb.size))
  have PD : Hid (∀ w1, Below w.heap.size w w1 → Calls Tryd.prog 68 #[.slice dO ys.length dc, .slice bo bs.length bc] w1 fun e w' => ∃ v' zs, e = .returned v' ∧ w'.ownsRow base 65 1 v' zs.length (cellsOf .u64 zs) ∧ w1.grownBy w' (Value.slice dO ys.length dc).ownBlock ∧ Lim B64 zs ∧ Top zs ∧ val B64 zs = val B64 ys + val B64 bs ∧ (∀ k, v'.ownBlock = some k → (Value.slice dO ys.length dc).ownBlock = some k ∨ w1.heap.size ≤ k)) :=
    Lib.hid (fun w1 hb => plus_any base _ ys bs _ w1 (own_other hd (grown_of_below hb none) (fun _ _ e => by cases e)) ly ty (hbs.below hb) lb tb hne2 hyl hbl (Nat.le_trans hbase hb.size))
  obtain ⟨c0, c1, f0, f1, _⟩ := blk2 hT
  have HT := Lib.hid hT; have HU := Lib.hid hu; have HD := Lib.hid hd; have HDIS := Lib.hid hdis
  have gu := tal_ne hu hT; have gd := tal_ne hd hT
  have GU := Lib.hid gu; have GD := Lib.hid gd
  have LX := Lib.hid (show Lim B64 xs ∧ Top xs ∧ val B64 xs = P ∧ Lim B64 ys ∧ Top ys ∧ val B64 ys = N ∧ val B64 bs = z.natAbs ∧ P ≤ m * HugeN ∧ N ≤ m * HugeN ∧ z.natAbs < HugeN from ⟨lx, tx, ex, ly, ty, ey, eb, hP, hN, hz⟩)
  clear hT hu hd hdis gu gd lx tx ex ly ty ey lb tb eb hP hN hz hne1 hne2 hbs hold hbo
  by_cases hs : sgn z = true
  · rw [hs, if_pos rfl, if_pos rfl]
    go_enter Tryd.func42, Tryd.ntmps42
    go_wp2
    obtain ⟨W, eW, h1, bel, hsz⟩ := alloc1 w (Obj.cells #[Value.slice bo bs.length bc, Value.bool true] 54)
    rw [eW]
    obtain ⟨b0, b1, _, _, _⟩ := blk2 h1
    have c0' := cell_to bel c0 hlt; have c1' := cell_to bel c1 hlt
    clear eW h1 c0 c1 f0 f1
    go_region_with (first | (go_at_call 68; refine (PD.out _ bel.drew).mono ?_; rintro e w' ⟨v', zs, rfl, ho, hg, hl, ht, hv, hat⟩; obtain ⟨a5, c5, rfl, _, _⟩ := own_shape ho; obtain ⟨k0, k1, g0, g1, _⟩ := blk2 ((hg.block g (Nat.lt_of_lt_of_le hlt bel.size) (fun e => GD.out e.symm)).trans ((bel.block g hlt).trans HT.out))))
    all_goals
      go_end0
      obtain ⟨F1, F2, F3, F4, F5, F6, F7, F8, F9, F10⟩ := LX.out
      exact ⟨rfl, tal_step1 HT.out bel hbg hbase HU.out HD.out HDIS.out GU.out GD.out ⟨F1, F2, F3, F4, F5, F6, F8, F9, F10⟩ ‹World.grownBy _ _ _› ‹World.ownsRow _ _ _ _ _ _ _› ‹Lim B64 _› ‹Top _› (by rw [← F7]; assumption) ‹∀ k, _›⟩
  · obtain hs : sgn z = false := by simpa using hs
    rw [hs, if_neg (by simp), if_neg (by simp)]
    go_enter Tryd.func42, Tryd.ntmps42
    go_wp2
    obtain ⟨W, eW, h1, bel, hsz⟩ := alloc1 w (Obj.cells #[Value.slice bo bs.length bc, Value.bool false] 54)
    rw [eW]
    obtain ⟨b0, b1, _, _, _⟩ := blk2 h1
    have c0' := cell_to bel c0 hlt; have c1' := cell_to bel c1 hlt
    clear eW h1 c0 c1 f0 f1
    go_region_with (first | (go_at_call 68; refine (PU.out _ bel.drew).mono ?_; rintro e w' ⟨v', zs, rfl, ho, hg, hl, ht, hv, hat⟩; obtain ⟨a5, c5, rfl, _, _⟩ := own_shape ho; obtain ⟨k0, k1, g0, g1, _⟩ := blk2 ((hg.block g (Nat.lt_of_lt_of_le hlt bel.size) (fun e => GU.out e.symm)).trans ((bel.block g hlt).trans HT.out))))
    all_goals
      go_end0
      obtain ⟨F1, F2, F3, F4, F5, F6, F7, F8, F9, F10⟩ := LX.out
      exact ⟨rfl, tal_step0 HT.out bel hbg hbase HU.out HD.out HDIS.out GU.out GD.out ⟨F1, F2, F3, F4, F5, F6, F8, F9, F10⟩ ‹World.grownBy _ _ _› ‹World.ownsRow _ _ _ _ _ _ _› ‹Lim B64 _› ‹Top _› (by rw [← F7]; assumption) ‹∀ k, _›⟩
end Go.Proofs.YtckmpnfadpnaeaaDoor
