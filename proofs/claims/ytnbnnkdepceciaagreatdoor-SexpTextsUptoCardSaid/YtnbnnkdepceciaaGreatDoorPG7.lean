/- PYL PYM PYN. -/
import Derived.Test.YtnbnnkdepceciaaGreatDoorPG1
import Derived.Test.YtnbnnkdepceciaaGreatDoorPG6
import Derived.Test.YtnbnnkdepceciaaGreatDoorNKG
import Derived.Deep.QuietTactic
import Derived.BigQuiet
set_option linter.unusedVariables false
set_option linter.unusedSimpArgs false
/- tribunalref07: sound. -/
namespace Go.Proofs.YtnbnnkdepceciaaGreatDoor
open Go.RowKit Mth

def SndR (nd : Nd) (k : Nat) (e : Ending) : Prop := (SndN nd k ∧ e = .returned (.bool true)) ∨ (¬ SndN nd k ∧ e = .returned (.bool false))
set_option maxHeartbeats 8000000 in
set_option maxRecDepth 100000 in
theorem rsound_any (v : Value) (T : List Nd) (k : Nat) (w : World) (h : SxL w v T) (hk : k < T.length) (ht : T[k].tok.t.size ≤ 1048576) (hkl : T[k].kids.length ≤ 1048576) :
    Calls Tryz.prog 35 #[v, .int .i64 (k : Int)] w fun e w' => SndR T[k] k e ∧ Below w.heap.size w w' := by
  have HT := Lib.hid ht; have HKL := Lib.hid hkl
  obtain ⟨ao, cap, rfl⟩ := h.shape
  obtain ⟨b, off, na, nc, rfl, hbl, c0, c1, c2, c3, c4, c5, c6, hkv⟩ := h.at hk
  generalize T[k] = nd at *
  obtain ⟨kind, tok, kids⟩ := nd
  obtain ⟨W, eW, gW, bW, hWs⟩ := allocS w (Obj.cells #[.int .i64 kind, .int .i64 tok.k, .string tok.t, .bool tok.q, .int .i64 tok.l, .int .i64 tok.c, .slice na kids.length nc] 53)
  have BW := Lib.hid bW
  have GW := Lib.hid gW
  have KV : Hid (InL W (.slice na kids.length nc) kids) := Lib.hid (hkv.below bW)
  have WR : Hid (Calls Tryz.prog 22 #[.agg #[.int .i64 tok.k, .string tok.t, .bool tok.q, .int .i64 tok.l, .int .i64 tok.c]] W fun e w' => WriteO W w' tok e) := Lib.hid (rwrite_any tok HT.out W)
  obtain ⟨p0, p1, p2, p3, p4, p5, p6⟩ := blk7 gW
  have i1 : decide ((T.length : Int) ≤ (k : Int)) = false := decide_eq_false (by omega)
  have hlk : kids.length ≤ 4611686018427387904 := Nat.le_trans HKL.out (by decide)
  clear h ht hkl hkv gW bW
  by_cases k1 : kind = 1
  · subst k1
    clear hlk
    go_enter Tryz.func35, Tryz.ntmps35
    go_wp2_with fail
    try rw [eW]
    refine WR.out.mono ?_
    rintro e w1 ⟨b1, hw⟩
    have B1 := Lib.hid (belowT BW.out b1)
    obtain ⟨q0, q1, q2, q3, q4, q5, q6⟩ := blk7 (blkT b1 GW.out)
    clear WR b1 p0 p1 p2 p3 p4 p5 p6 c0 c1 c2 c3 c4 c5 c6
    rcases hw with ⟨hg, rfl⟩ | ⟨hg, rfl⟩
    · have HG := Lib.hid hg
      clear hg
      by_cases t1 : tok.k = 1
      · have HS : Hid (¬ SndN ⟨1, tok, kids⟩ k) := Lib.hid (by rintro (⟨_, _, h, _⟩ | ⟨h, _⟩); exact h t1; cases h)
        have d1 : (tok.k != 1) = false := by rw [t1]; rfl
        clear t1
        go_wp2
        go_ret
        exact ⟨.inr ⟨HS.out, rfl⟩, B1.out⟩
      · have d1 : (tok.k != 1) = true := bne_iff_ne.2 t1
        by_cases t2 : tok.k = 2
        · have HS : Hid (¬ SndN ⟨1, tok, kids⟩ k) := Lib.hid (by rintro (⟨_, _, _, h⟩ | ⟨h, _⟩); exact h t2; cases h)
          have d2 : (tok.k != 2) = false := by rw [t2]; rfl
          clear t1 t2
          go_wp2
          go_ret
          exact ⟨.inr ⟨HS.out, rfl⟩, B1.out⟩
        · have HS : Hid (SndN ⟨1, tok, kids⟩ k) := Lib.hid (.inl ⟨rfl, HG.out, t1, t2⟩)
          have d2 : (tok.k != 2) = true := bne_iff_ne.2 t2
          clear t1 t2
          go_wp2
          go_ret
          exact ⟨.inl ⟨HS.out, rfl⟩, B1.out⟩
    · have HS : Hid (¬ SndN ⟨1, tok, kids⟩ k) := Lib.hid (by rintro (⟨_, h, _⟩ | ⟨h, _⟩); exact hg h; cases h)
      clear hg
      go_wp2
      go_ret
      exact ⟨.inr ⟨HS.out, rfl⟩, B1.out⟩
  · have d1 : (kind == 1) = false := beq_eq_false_iff_ne.2 k1
    clear WR
    by_cases k2 : kind = 2
    · subst k2
      clear k1
      go_enter Tryz.func35, Tryz.ntmps35
      go_wp2
      try rw [eW]
      clear c0 c1 c2 c3 c4 c5 c6
      go_loopw [8] (fun i wr => ∃ j : Nat, j ≤ kids.length ∧ i = .int .i64 (j : Int) ∧ wr = W ∧ ∀ (m : Nat) x, m < j → kids[m]? = some x → 0 ≤ x ∧ x < (k : Int)) (fun i _ => kids.length - (intOf i).toNat)
      case atStart => exact ⟨0, Nat.zero_le _, rfl, rfl, fun m x hm => by omega⟩
      case round =>
        obtain ⟨j, hj, rfl, rfl, hok⟩ := hrel
        have HO := Lib.hid hok
        clear hok
        by_cases hlt : j < kids.length
        · have hx : kids[j]? = some kids[j] := List.getElem?_eq_getElem hlt
          obtain ⟨ao1, cap1, ee, hc1⟩ := KV.out
          obtain ⟨b1, o1, x1, -, hcc1⟩ := hc1 (fun e => by rw [e] at hlt; simp at hlt)
          have c1' := hcc1 j _ hx
          simp only [Value.slice.injEq] at ee
          obtain ⟨rfl, -, -⟩ := ee
          subst x1
          have HX := Lib.hid hx
          generalize kids[j] = x at *
          clear hcc1 hc1 hx
          by_cases x0 : x < 0
          · have HS : Hid (¬ SndN ⟨2, tok, kids⟩ k) := Lib.hid (by rintro (⟨h, _⟩ | ⟨_, h⟩); cases h; have := (h x (List.mem_of_getElem? HX.out)).1; omega)
            have d2 : decide (x < 0) = true := decide_eq_true x0
            clear x0
            go_wp2
            go_ret
            exact ⟨.inr ⟨HS.out, rfl⟩, BW.out⟩
          · have d2 : decide (x < 0) = false := decide_eq_false x0
            by_cases x3 : (k : Int) ≤ x
            · have HS : Hid (¬ SndN ⟨2, tok, kids⟩ k) := Lib.hid (by rintro (⟨h, _⟩ | ⟨_, h⟩); cases h; have := (h x (List.mem_of_getElem? HX.out)).2; omega)
              have d3 : decide ((k : Int) ≤ x) = true := decide_eq_true x3
              clear x0 x3
              go_wp2
              go_ret
              exact ⟨.inr ⟨HS.out, rfl⟩, BW.out⟩
            · have d3 : decide ((k : Int) ≤ x) = false := decide_eq_false x3
              have HO2 : Hid (∀ (m : Nat) y, m < j + 1 → kids[m]? = some y → 0 ≤ y ∧ y < (k : Int)) := Lib.hid (fun m y hm hy => by
                rcases Nat.lt_or_ge m j with h | h
                · exact HO.out m y h hy
                · rw [show m = j by omega] at hy
                  obtain rfl := Option.some.inj (HX.out.symm.trans hy)
                  omega)
              clear x0 x3
              go_wp2
              go_roundw
              case rel => exact ⟨j + 1, by omega, by go_num, trivial, HO2.out⟩
              case measure => simp [intOf]; omega
        · obtain rfl : j = kids.length := by omega
          have HS : Hid (SndN ⟨2, tok, kids⟩ k) := Lib.hid (.inr ⟨rfl, fun x hx => by
            obtain ⟨m, hm, e⟩ := List.mem_iff_getElem.1 hx
            exact HO.out m x hm (by rw [List.getElem?_eq_getElem hm, e])⟩)
          go_wp2
          go_ret
          exact ⟨.inl ⟨HS.out, rfl⟩, BW.out⟩
    · have d2 : (kind != 2) = true := bne_iff_ne.2 k2
      have HS : Hid (¬ SndN ⟨kind, tok, kids⟩ k) := Lib.hid (by rintro (⟨h, _⟩ | ⟨h, _⟩); exact k1 h; exact k2 h)
      clear k1 k2
      go_enter Tryz.func35, Tryz.ntmps35
      go_wp2
      try rw [eW]
      go_ret
      exact ⟨.inr ⟨HS.out, rfl⟩, BW.out⟩
end Go.Proofs.YtnbnnkdepceciaaGreatDoor

/- tribunalref07: Check. -/
namespace Go.Proofs.YtnbnnkdepceciaaGreatDoor
open Go.RowKit Mth

theorem info_bool : (Tryz.prog.info? 4).map (fun i => (i.zero, i.size, i.bytes)) = some (some (.bool false), 1, 1) := by kernel_rfl
/-- a list of bools in block B -/
def BlW (w : World) (B : Nat) (m : List Bool) : Prop := w.ownsRow B 4 1 (.slice (some ⟨B, 0, none⟩) m.length m.length) m.length (m.map Value.bool)
theorem BlW.at {w : World} {B i : Nat} {m : List Bool} (h : BlW w B m) (hi : i < m.length) : w.cell? ⟨B, i, none⟩ = some (.bool m[i]) ∧ w.frozen? ⟨B, i, none⟩ = false := by
  refine ⟨?_, World.ownsRow.frozenAt h _⟩
  rw [World.ownsRow.cellAt h i (by omega), List.getElem?_map, List.getElem?_eq_getElem hi]; rfl
theorem BlW.set {w : World} {B i : Nat} {m : List Bool} {x : Bool} (h : BlW w B m) : BlW (w.setCell ⟨B, i, none⟩ (.bool x)) B (m.set i x) := by
  have := (World.ownsRow.stored h i (.bool x)).1
  unfold BlW
  rw [List.length_set, List.map_set]
  exact this
theorem BlW.keeps {w w' : World} {X : Nat → Prop} {B : Nat} {m : List Bool} (h : BlW w B m) (hk : Keeps w w' X) (hx : X B) : BlW w' B m := own_keeps h hk (fun g hg => by obtain rfl := Option.some.inj hg; exact hx)
theorem BlW.lt {w : World} {B : Nat} {m : List Bool} (h : BlW w B m) : B < w.heap.size := (World.ownsRow.lt h B rfl).2
theorem zeros_b (n : Nat) : (madeCells (Value.bool false).cells (n * 1)).toList = List.replicate n (Value.bool false) := by
  unfold madeCells
  apply List.ext_getElem
  · simp [Value.cells]
  · intro i h1 h2
    simp [Value.cells, Nat.mod_one]
theorem make_bool {w : World} {ops : Array Oper} {rest : List Oper} {o : Oper} {a : Act} {Q : Exit → Act → World → Prop}
    (hg : o.guard = none) (l c : Operand) (hop : o.op = Op.makeSlice 92 l c) (L C : Int) (n : Nat) (hl : a.eval l = .int .i64 L) (hc : a.eval c = .int .i64 C) (hL : L = (n : Int)) (hC : C = (n : Int))
    (hn : n ≤ 16777217)
    (hK : ∀ w', BlW w' w.heap.size (List.replicate n false) → Below w.heap.size w w' → wpList Tryz.prog ops Q rest (a.put o.dst (.slice (some ⟨w.heap.size, 0, none⟩) n n)) w') :
    wpList Tryz.prog ops Q (o :: rest) a w := by
  obtain ⟨i0, hi, hz0, hz1, hz2⟩ := info_parts info_bool
  refine wpList_make_full w hg l c 92 hop w.heap.size 4 i0 _ 1 Tryz.underlying92 hi hz0 hz1 .i64 .i64 L C n hl hc hL hC (by rw [hz2]; omega) (by unfold maxLen; omega) (Nat.le_refl _) ?_
  intro w' hown hgrow
  refine hK w' ?_ ((Below.refl _ _).grown hgrow (Nat.le_refl _) (fun k e => by simp at e))
  unfold BlW
  rw [List.length_replicate, List.map_replicate]
  rw [zeros_b] at hown
  exact hown
/-- kids that are marked, one by one -/
def marks (m : List Bool) (ks : List Int) : List Bool := ks.foldl (fun m x => m.set x.toNat true) m
theorem marks_len : ∀ (ks : List Int) (m : List Bool), (marks m ks).length = m.length
  | [], m => rfl
  | x :: ks, m => by show (marks (m.set x.toNat true) ks).length = _; rw [marks_len ks, List.length_set]
theorem marks_get : ∀ (ks : List Int) (m : List Bool) (j : Nat), (marks m ks)[j]? = some true → m[j]? = some true ∨ ∃ x ∈ ks, x.toNat = j
  | [], m, j, h => .inl h
  | x :: ks, m, j, h => by
    rcases marks_get ks (m.set x.toNat true) j h with h | ⟨y, hy, e⟩
    · by_cases e : x.toNat = j
      · exact .inr ⟨x, List.mem_cons_self .., e⟩
      · rw [List.getElem?_set_ne e] at h; exact .inl h
    · exact .inr ⟨y, List.mem_cons_of_mem _ hy, e⟩
theorem marks_old : ∀ (ks : List Int) (m : List Bool) (j : Nat), m[j]? = some true → (marks m ks)[j]? = some true
  | [], m, j, h => h
  | x :: ks, m, j, h => by
    refine marks_old ks (m.set x.toNat true) j ?_
    have hj := (List.getElem?_eq_some_iff.1 h).1
    by_cases e : x.toNat = j
    · rw [e, List.getElem?_set_self hj]
    · rw [List.getElem?_set_ne e]; exact h
theorem marks_new : ∀ (ks : List Int) (m : List Bool) (x : Int), x ∈ ks → x.toNat < m.length → (marks m ks)[x.toNat]? = some true
  | [], m, x, h, _ => by cases h
  | y :: ks, m, x, h, hl => by
    rcases List.mem_cons.1 h with rfl | h
    · exact marks_old ks _ _ (List.getElem?_set_self hl)
    · exact marks_new ks (m.set y.toNat true) x h (by rw [List.length_set]; exact hl)
/-- what holds when the nodes from i on are looked at -/
structure ChkI (T : List Nd) (r : Nat) (m : List Bool) (i : Nat) : Prop where
  len : m.length = T.length
  root : m[r]? = some true
  down : ∀ x, m[x]? = some true → x ≤ r ∧ (Sound T r → Sound T x)
  done : ∀ x (hx : x < T.length), i ≤ x → m[x]? = some true → SndN T[x] x ∧ ∀ y ∈ kidsF T (x : Int), m[y.toNat]? = some true
theorem chk_start {T : List Nd} {r : Nat} (hr : r < T.length) : ChkI T r ((List.replicate T.length false).set r true) (r + 1) := by
  have hg : ∀ x, ((List.replicate T.length false).set r true)[x]? = some true → x = r := fun x h => by
    by_cases e : r = x
    · exact e.symm
    · rw [List.getElem?_set_ne e, List.getElem?_replicate] at h
      split at h <;> simp at h
  refine ⟨by simp, List.getElem?_set_self (by simpa using hr), fun x h => ?_, fun x hx hi h => ?_⟩
  · rw [hg x h]; exact ⟨Nat.le_refl _, id⟩
  · have := hg x h; omega
theorem chk_skip {T : List Nd} {r i : Nat} {m : List Bool} (h : ChkI T r m (i + 1)) (hm : m[i]? = some false) : ChkI T r m i := by
  refine ⟨h.len, h.root, h.down, fun x hx hi hxm => ?_⟩
  rcases Nat.lt_or_ge i x with h' | h'
  · exact h.done x hx h' hxm
  · obtain rfl : x = i := by omega
    rw [hm] at hxm; cases hxm
theorem chk_step {T : List Nd} {r i : Nat} {m : List Bool} (h : ChkI T r m (i + 1)) (hi : i < T.length) (hm : m[i]? = some true) (hs : SndN T[i] i) : ChkI T r (marks m (kidsF T (i : Int))) i := by
  have hk := kidsF_lt hi hs
  refine ⟨by rw [marks_len, h.len], marks_old _ _ _ h.root, fun x hx => ?_, fun x hx hix hxm => ?_⟩
  · rcases marks_get _ _ _ hx with hx | ⟨y, hy, rfl⟩
    · exact h.down x hx
    · have := hk y hy
      have := (h.down i hm)
      refine ⟨by omega, fun hr => ?_⟩
      obtain ⟨_, _, hks⟩ := sound_snd (this.2 hr)
      exact hks y hy
  · rcases Nat.lt_or_ge i x with h' | h'
    · have hold : m[x]? = some true := by
        rcases marks_get _ _ _ hxm with hx | ⟨y, hy, rfl⟩
        · exact hx
        · have := hk y hy; omega
      obtain ⟨h1, h2⟩ := h.done x hx h' hold
      exact ⟨h1, fun y hy => marks_old _ _ _ (h2 y hy)⟩
    · obtain rfl : x = i := by omega
      exact ⟨hs, fun y hy => marks_new _ _ y hy (by rw [h.len]; have := hk y hy; omega)⟩
theorem chk_bad {T : List Nd} {r i : Nat} {m : List Bool} (h : ChkI T r m (i + 1)) (hi : i < T.length) (hm : m[i]? = some true) (hs : ¬ SndN T[i] i) : ¬ Sound T r := fun hr => by
  obtain ⟨_, h1, _⟩ := sound_snd ((h.down i hm).2 hr)
  exact hs h1
theorem chk_end {T : List Nd} {r : Nat} {m : List Bool} (h : ChkI T r m 0) : Sound T r := by
  have H : ∀ n x, x < n → m[x]? = some true → Sound T x := by
    intro n
    induction n with
    | zero => intro x hx; omega
    | succ n ih =>
      intro x hx hm
      have hxl : x < T.length := by rw [← h.len]; exact (List.getElem?_eq_some_iff.1 hm).1
      obtain ⟨h1, h2⟩ := h.done x hxl (Nat.zero_le _) hm
      refine sound_at hxl h1 (fun y hy => ih y.toNat ?_ (h2 y hy))
      have := kidsF_lt hxl h1 y hy
      omega
  exact H (r + 1) r (by omega) h.root
/-- what Check answers of node r -/
def CheckO (T : List Nd) (r : Nat) (e : Ending) : Prop := (Sound T r ∧ e = .returned (.int .i64 0)) ∨ (¬ Sound T r ∧ e = .returned (.int .i64 73))
def ChkR (w wr : World) (T : List Nd) (r : Nat) (i : Value) : Prop := ∃ (j : Nat) (m : List Bool), j ≤ r + 1 ∧ i = .int .i64 ((j : Int) - 1) ∧ ChkI T r m j ∧ BlW wr w.heap.size m ∧ Below w.heap.size w wr
theorem marks_snoc (m : List Bool) {ks : List Int} {q : Nat} (h : q < ks.length) : marks m (ks.take (q + 1)) = (marks m (ks.take q)).set ks[q].toNat true := by
  unfold marks
  rw [List.take_succ_eq_append_getElem h, List.foldl_append]; rfl
theorem chk_rel {w wr : World} {T : List Nd} {r i : Nat} {m : List Bool} (hi : i ≤ r + 1) (h : ChkI T r m i) (hb : BlW wr w.heap.size m) (hl : Below w.heap.size w wr) {v : Int} (hv : v = (i : Int) - 1) : ChkR w wr T r (.int .i64 v) := ⟨i, m, hi, by rw [hv], h, hb, hl⟩
set_option maxHeartbeats 16000000 in
set_option maxRecDepth 100000 in
theorem rcheck_in {T : List Nd} (C : TabC T) (v : Value) (r : Nat) (w : World) (h : SxL w v T) (hr : r < T.length) :
    Calls Tryz.prog 29 #[v, .int .i64 (r : Int)] w fun e w' => CheckO T r e ∧ Below w.heap.size w w' := by
  have HC := Lib.hid C
  have HT := Lib.hid h
  have hN := C.N
  obtain ⟨ao, cap, rfl⟩ := h.shape
  have i1 : decide ((r : Int) < 0) = false := decide_eq_false (by omega)
  have i2 : decide ((T.length : Int) ≤ (r : Int)) = false := decide_eq_false (by omega)
  have i3 : ¬ T.length ≤ r := by omega
  have ST := Lib.hid (chk_start hr)
  clear h C
  go_enter Tryz.func29, Tryz.ntmps29
  go_wp2_with (at_make; refine make_bool rfl _ _ rfl _ _ T.length rfl rfl rfl rfl (by omega) ?_; intro w1 hrow hb1; have hc1 := hrow.at (i := r) (by rw [List.length_replicate]; exact hr); obtain ⟨hc1, hf1⟩ := hc1; have HROW := Lib.hid hrow; have HB1 := Lib.hid hb1; have hlt1 := hrow.lt; clear hrow hb1)
  have HS1 : Hid (ChkR w (w1.setCell ⟨w.heap.size, r, none⟩ (.bool true)) T r (.int .i64 (r : Int))) := Lib.hid ⟨r + 1, _, Nat.le_refl _, by congr 1; omega, ST.out, HROW.out.set, HB1.out.setCell (Nat.le_refl _) _⟩
  clear hc1 hf1
  go_loopw [6] (fun i wr => ChkR w wr T r i) (fun i _ => (intOf i + 1).toNat)
  case atStart => exact HS1.out
  case round =>
    obtain ⟨j, m, hj, rfl, hI, hB, hbel⟩ := hrel
    have HI := Lib.hid hI; have HB := Lib.hid hB; have HBE := Lib.hid hbel
    cases j with
    | zero =>
      have e0 : (((0 : Nat) : Int) - 1) = -1 := rfl
      rw [e0]
      have HE := Lib.hid (chk_end hI)
      clear hI hB hbel
      go_wp2
      go_ret
      exact ⟨.inl ⟨HE.out, rfl⟩, HBE.out⟩
    | succ i =>
      have e0 : (((i + 1 : Nat) : Int) - 1) = (i : Int) := by omega
      rw [e0]
      have hi : i < T.length := by omega
      have him : i < m.length := by rw [hI.len]; exact hi
      have HML : Hid (m.length = T.length) := Lib.hid hI.len
      have hc := (hB.at him).1
      have hmi : m[i]? = some m[i] := List.getElem?_eq_getElem him
      have e1 : wrap64 ((i : Int) - 1) = (i : Int) - 1 := IntWalk.wrap64_in _ (by omega)
      have hlB := hB.lt
      generalize m[i] = bi at *
      cases bi with
      | false =>
        have HN := Lib.hid (chk_skip hI hmi)
        clear hI hB hbel hmi
        go_wp2
        go_roundw
        case rel => exact chk_rel (by omega) HN.out HB.out HBE.out (by omega)
        case measure => (simp [intOf]; try omega)
      | true =>
        have hTW := HT.out.below hbel
        have HTW := Lib.hid hTW
        have SD := Lib.hid (rsound_any _ T i wr hTW hi (HC.out.tok _ (List.getElem_mem hi)) (HC.out.kids _ (List.getElem_mem hi)))
        have HMI := Lib.hid hmi
        clear hI hB hbel hmi hTW
        go_wp2_with fail
        refine SD.out.mono ?_
        rintro e w2 ⟨⟨hs, rfl⟩ | ⟨hs, rfl⟩, hb2⟩
        · have HS := Lib.hid hs
          have HN := Lib.hid (chk_step HI.out hi HMI.out hs)
          have HBE2 := Lib.hid (HBE.out.trans (hb2.mono HBE.out.size))
          have HB2 := Lib.hid (HB.out.keeps (Keeps.of_below hb2) trivial)
          have HKL := Lib.hid (kidsF_lt hi hs)
          have KE := Lib.hid (kidsF_at hi)
          have hT2 := HT.out.below HBE2.out
          obtain ⟨b, off, na, nc, rfl, hbl, c0, -, -, -, -, -, c6, hkv⟩ := hT2.at hi
          clear hs hb2 SD hc hT2 hkv
          by_cases k2 : T[i].kind = 2
          · have KE2 : Hid (kidsF T (i : Int) = T[i].kids) := Lib.hid (by rw [KE.out, if_pos k2])
            rw [KE2.out] at HN HKL
            have K2 := Lib.hid k2
            clear k2 KE c0 c6
            obtain ⟨ks, hks⟩ : ∃ ks, T[i].kids = ks := ⟨_, rfl⟩
            rw [hks] at HN HKL
            have hksl : ks.length ≤ 1048576 := by rw [← hks]; exact HC.out.kids _ (List.getElem_mem hi)
            have HKS := Lib.hid hks
            clear hks
            go_wp2_with fail
            obtain ⟨wo, hwo⟩ : ∃ wo : World, wo = w2 := ⟨_, rfl⟩
            have HWO := Lib.hid hwo
            clear hwo
            go_loopw [7] (fun k wk => ∃ q : Nat, q ≤ ks.length ∧ k = .int .i64 (q : Int) ∧ BlW wk w.heap.size (marks m (ks.take q)) ∧ Below w.heap.size w wk) (fun k _ => ks.length - (intOf k).toNat)
            case atStart => exact ⟨0, Nat.zero_le _, rfl, HB2.out, HBE2.out⟩
            case round =>
              obtain ⟨q, hq, rfl, hBq, hbq⟩ := hrel
              have HBQ := Lib.hid hBq; have HBEQ := Lib.hid hbq
              obtain ⟨b', off', na', nc', eb, hbl', d0, -, -, -, -, -, d6, hkv⟩ := (HT.out.below hbq).at hi
              simp only [Option.some.injEq, Addr.mk.injEq, and_true] at eb
              obtain ⟨rfl, rfl⟩ := eb
              rw [K2.out] at d0
              rw [HKS.out] at d6 hkv
              have HKV := Lib.hid hkv
              clear hBq hbq hkv
              by_cases hqk : q < ks.length
              · have hx := HKL.out ks[q] (List.getElem_mem hqk)
                have HSN := Lib.hid (marks_snoc m hqk)
                have hkx := List.getElem?_eq_getElem hqk
                obtain ⟨y, hy⟩ : ∃ y : Nat, ks[q] = (y : Int) := ⟨ks[q].toNat, by omega⟩
                rw [hy] at hx hkx HSN
                rw [Int.toNat_natCast] at HSN
                obtain ⟨ao1, cap1, ee, hc1⟩ := HKV.out
                obtain ⟨b1, o1, x1, -, hcc1⟩ := hc1 (fun e => by rw [e] at hqk; simp at hqk)
                have c1' := hcc1 q _ hkx
                simp only [Value.slice.injEq] at ee
                obtain ⟨rfl, -, -⟩ := ee
                subst x1
                have hyl : y < T.length := by omega
                have hym : y < (marks m (ks.take q)).length := by rw [marks_len, HML.out]; exact hyl
                obtain ⟨m1, m2⟩ := HBQ.out.at hym
                generalize (marks m (ks.take q))[y] = bb at m1
                clear hcc1 hc1 hkx hy hym
                go_wp2
                go_roundw
                case rel => exact ⟨q + 1, by omega, by go_num, by rw [HSN.out]; exact HBQ.out.set, HBEQ.out.setCell (Nat.le_refl _) _⟩
                case measure => (simp [intOf]; try omega)
              · obtain rfl : q = ks.length := by omega
                have HBQ2 : Hid (BlW wr w.heap.size (marks m ks)) := Lib.hid (by have := HBQ.out; rwa [List.take_length] at this)
                go_wp2
                go_roundw
                case rel => exact chk_rel (by omega) HN.out HBQ2.out HBEQ.out (by omega)
                case measure => (simp [intOf]; try omega)
          · have KE2 : Hid (kidsF T (i : Int) = []) := Lib.hid (by rw [KE.out, if_neg k2])
            rw [KE2.out] at HN
            have d2 : (T[i].kind == 2) = false := beq_eq_false_iff_ne.2 k2
            generalize T[i].kind = kd at *
            clear k2 KE
            go_wp2_with fail
            go_loopw [7] (fun k wr => k = .int .i64 0 ∧ wr = w2) (fun _ _ => 0)
            case atStart => exact ⟨rfl, rfl⟩
            case round =>
              obtain ⟨rfl, rfl⟩ := hrel
              go_wp2
              go_roundw
              case rel => exact chk_rel (by omega) HN.out HB2.out HBE2.out (by omega)
              case measure => (simp [intOf]; try omega)
        · have HE := Lib.hid (chk_bad HI.out hi HMI.out hs)
          have HBE2 := Lib.hid (HBE.out.trans (hb2.mono HBE.out.size))
          clear hs hb2 SD
          go_wp2
          go_ret
          exact ⟨.inr ⟨HE.out, rfl⟩, HBE2.out⟩
end Go.Proofs.YtnbnnkdepceciaaGreatDoor

/- tribunalref07: Check where there is no such node; Depth. -/
namespace Go.Proofs.YtnbnnkdepceciaaGreatDoor
open Go.RowKit Mth

set_option maxRecDepth 100000 in
theorem rcheck_out (T : List Nd) (v : Value) (r : Int) (w : World) (h : SxL w v T) (hr : ¬ (0 ≤ r ∧ r < T.length)) :
    Calls Tryz.prog 29 #[v, .int .i64 r] w fun e w' => e = .returned (.int .i64 1) ∧ w' = w := by
  obtain ⟨ao, cap, rfl⟩ := h.shape
  clear h
  by_cases h0 : r < 0
  · have d1 : decide (r < 0) = true := decide_eq_true h0
    clear hr h0
    go_enter Tryz.func29, Tryz.ntmps29
    go_wp2
    go_ret
    exact ⟨rfl, rfl⟩
  · have d1 : decide (r < 0) = false := decide_eq_false h0
    have d2 : decide ((T.length : Int) ≤ r) = true := decide_eq_true (by omega)
    clear hr h0
    go_enter Tryz.func29, Tryz.ntmps29
    go_wp2
    go_ret
    exact ⟨rfl, rfl⟩
/-- what holds of the depths when the nodes below i are reckoned -/
structure DepI (T : List Nd) (m : List Int) (r i : Nat) : Prop where
  len : m.length = r + 1
  val : ∀ x (h : x < m.length), x < i → Sound T x → m[x] = numF baseD moreD T x
  bnd : ∀ x (h : x < m.length), 0 ≤ m[x] ∧ m[x] ≤ (x : Int) + 1
  zero : ∀ x (h : x < m.length), i ≤ x → m[x] = 0
theorem dep_start (T : List Nd) (r : Nat) : DepI T (List.replicate (r + 1) 0) r 0 := ⟨by simp, fun x _ h => by omega, fun x h => by simp; omega, fun x h _ => by simp⟩
theorem dep_skip {T : List Nd} {m : List Int} {r i : Nat} (h : DepI T m r i) (hv : Sound T i → numF baseD moreD T i = 0) : DepI T m r (i + 1) := by
  refine ⟨h.len, fun x hx hi hs => ?_, h.bnd, fun x hx hi => h.zero x hx (by omega)⟩
  rcases Nat.lt_or_ge x i with h' | h'
  · exact h.val x hx h' hs
  · obtain rfl : x = i := by omega
    rw [hv hs]; exact h.zero x hx (Nat.le_refl _)
/-- the greatest depth of kids -/
def maxK (m : List Int) (ks : List Int) : Int := ks.foldl (fun a x => max a ((m[x.toNat]?).getD 0)) 0
theorem maxK_snoc (m : List Int) {ks : List Int} {q : Nat} (h : q < ks.length) : maxK m (ks.take (q + 1)) = max (maxK m (ks.take q)) ((m[ks[q].toNat]?).getD 0) := by
  unfold maxK
  rw [List.take_succ_eq_append_getElem h, List.foldl_append]; rfl
theorem maxK_bnd {m : List Int} {i : Nat} (hb : ∀ x (h : x < m.length), 0 ≤ m[x] ∧ m[x] ≤ (x : Int) + 1) : ∀ (ks : List Int), (∀ x ∈ ks, 0 ≤ x ∧ x < (i : Int)) → ∀ a : Int, 0 ≤ a → a ≤ i → 0 ≤ ks.foldl (fun a x => max a ((m[x.toNat]?).getD 0)) a ∧ ks.foldl (fun a x => max a ((m[x.toNat]?).getD 0)) a ≤ i
  | [], _, a, h1, h2 => ⟨h1, h2⟩
  | x :: ks, hk, a, h1, h2 => by
    have hx := hk x (List.mem_cons_self ..)
    refine maxK_bnd hb ks (fun y hy => hk y (List.mem_cons_of_mem _ hy)) _ ?_ ?_
    · show 0 ≤ max a ((m[x.toNat]?).getD 0); omega
    · show max a ((m[x.toNat]?).getD 0) ≤ (i : Int)
      rcases Nat.lt_or_ge x.toNat m.length with h | h
      · rw [List.getElem?_eq_getElem h, Option.getD_some]
        have := hb x.toNat h
        omega
      · rw [List.getElem?_eq_none h, Option.getD_none]; omega
theorem maxK_num {m : List Int} {f : Int → Int} : ∀ (ks : List Int), (∀ x ∈ ks, (m[x.toNat]?).getD 0 = f x) → ∀ a, ks.foldl (fun a x => moreD a (f x)) (a + 1) = ks.foldl (fun a x => max a ((m[x.toNat]?).getD 0)) a + 1
  | [], _, a => rfl
  | x :: ks, h, a => by
    rw [List.foldl_cons, List.foldl_cons, ← maxK_num ks (fun y hy => h y (List.mem_cons_of_mem _ hy)), h x (List.mem_cons_self ..)]
    congr 1
    unfold moreD; omega
theorem dep_step {T : List Nd} {m : List Int} {r i : Nat} (h : DepI T m r i) (hi : i < T.length) (hir : i ≤ r) (hk2 : T[i].kind = 2) (hs : SndN T[i] i) : DepI T (m.set i (maxK m T[i].kids + 1)) r (i + 1) := by
  have hkl := kidsF_lt hi hs
  rw [kidsF_at hi, if_pos hk2] at hkl
  have hb := maxK_bnd (i := i) h.bnd T[i].kids hkl 0 (by omega) (by omega)
  refine ⟨by rw [List.length_set, h.len], fun x hx hxi hso => ?_, fun x hx => ?_, fun x hx hxi => ?_⟩
  · rw [List.length_set] at hx
    by_cases e : i = x
    · subst e
      rw [List.getElem_set_self, num_at hi hs, kidsF_at hi, if_pos hk2]
      have hbase : baseD T[i] = 0 + 1 := by unfold baseD; rw [if_neg (by omega)]; rfl
      rw [hbase, maxK_num (m := m) (f := fun x => numF baseD moreD T x.toNat) T[i].kids (fun y hy => ?_) 0]
      · rfl
      · obtain ⟨_, _, hks⟩ := sound_snd hso
        have := hkl y hy
        have hyl : y.toNat < m.length := by rw [h.len]; omega
        rw [List.getElem?_eq_getElem hyl, Option.getD_some]
        exact h.val y.toNat hyl (by omega) (hks y (by rw [kidsF_at hi, if_pos hk2]; exact hy))
    · rw [List.getElem_set_ne e]
      exact h.val x hx (by omega) hso
  · rw [List.length_set] at hx
    by_cases e : i = x
    · subst e
      rw [List.getElem_set_self]
      unfold maxK; omega
    · rw [List.getElem_set_ne e]; exact h.bnd x hx
  · rw [List.length_set] at hx
    rw [List.getElem_set_ne (by omega)]
    exact h.zero x hx (by omega)
/-- what the reference's Depth answers of node r -/
def RDepO (T : List Nd) (r : Nat) (e : Ending) : Prop := (Sound T r ∧ e = .returned (.tuple #[.int .i64 (numF baseD moreD T r), .int .i64 0])) ∨ (¬ Sound T r ∧ e = .returned (.tuple #[.int .i64 0, .int .i64 73]))
def DepR (w wr : World) (T : List Nd) (r : Nat) (g : Nat) (i : Value) : Prop := ∃ (j : Nat) (m : List Int), j ≤ r + 1 ∧ i = .int .i64 (j : Int) ∧ DepI T m r j ∧ IlW wr g m ∧ Below w.heap.size w wr
theorem dep_rel {w wr : World} {T : List Nd} {r g i : Nat} {m : List Int} (hi : i ≤ r + 1) (h : DepI T m r i) (hb : IlW wr g m) (hl : Below w.heap.size w wr) {v : Int} (hv : v = (i : Int)) : DepR w wr T r g (.int .i64 v) := ⟨i, m, hi, by rw [hv], h, hb, hl⟩
theorem sound_zero {T : List Nd} {i : Nat} (hi : i < T.length) (hk : T[i].kind ≠ 2) (hs : Sound T i) : numF baseD moreD T i = 0 := by
  obtain ⟨_, h, _⟩ := sound_snd hs
  rw [num_at hi h, kidsF_at hi, if_neg hk]
  rcases h with ⟨h1, _⟩ | ⟨h2, _⟩
  · show baseD T[i] = 0
    unfold baseD; rw [if_pos h1]
  · exact absurd h2 hk
set_option maxHeartbeats 16000000 in
set_option maxRecDepth 100000 in
theorem rdepth_in {T : List Nd} (C : TabC T) (v : Value) (r : Nat) (w : World) (h : SxL w v T) (hr : r < T.length) :
    Calls Tryz.prog 18 #[v, .int .i64 (r : Int)] w fun e w' => RDepO T r e ∧ Below w.heap.size w w' := by
  have HC := Lib.hid C
  have HT := Lib.hid h
  have hN := C.N
  have CK := Lib.hid (rcheck_in C v r w h hr)
  obtain ⟨ao, cap, rfl⟩ := h.shape
  have e1 : wrap64 ((r : Int) + 1) = ((r + 1 : Nat) : Int) := IntWalk.wrap64_in _ (by omega)
  clear h C
  go_enter Tryz.func18, Tryz.ntmps18
  go_wp2_with fail
  refine CK.out.mono ?_
  rintro e w0 ⟨⟨hs, rfl⟩ | ⟨hs, rfl⟩, hb0⟩
  rotate_left
  · have HS := Lib.hid hs; have HB0 := Lib.hid hb0
    clear hs hb0 CK
    go_wp2
    go_ret2
    exact ⟨.inr ⟨HS.out, rfl⟩, HB0.out⟩
  · have HS := Lib.hid hs; have HB0 := Lib.hid hb0
    clear hs hb0 CK
    go_wp2_with (at_make; refine make_ints rfl _ _ rfl _ _ (r + 1) rfl rfl (by omega) (by omega) (by omega) ?_; intro w1 hrow hb1; have HROW := Lib.hid hrow; have HB1 := Lib.hid (HB0.out.trans (hb1.mono HB0.out.size)); clear hrow hb1)
    go_loopw [8] (fun i wr => DepR w wr T r w0.heap.size i) (fun i _ => (r + 1 : Nat) - (intOf i).toNat)
    case atStart => exact ⟨0, _, Nat.zero_le _, rfl, dep_start T r, HROW.out, HB1.out⟩
    case round =>
      obtain ⟨i, m, hj, rfl, hI, hB, hbel⟩ := hrel
      have HI := Lib.hid hI; have HB := Lib.hid hB; have HBE := Lib.hid hbel
      by_cases hir : i ≤ r
      · have hi : i < T.length := by omega
        have HML : Hid (m.length = r + 1) := Lib.hid hI.len
        have hTW := HT.out.below hbel
        have HTW := Lib.hid hTW
        have SD := Lib.hid (rsound_any _ T i wr hTW hi (HC.out.tok _ (List.getElem_mem hi)) (HC.out.kids _ (List.getElem_mem hi)))
        obtain ⟨b, off, na, nc, rfl, hbl, c0, -, -, -, -, -, c6, hkv⟩ := hTW.at hi
        clear hI hB hbel hTW hkv c6
        by_cases k2 : T[i].kind = 2
        · have d2 : (T[i].kind != 2) = false := by rw [k2]; rfl
          have K2 := Lib.hid k2
          have HKS0 : Hid (kidsF T (i : Int) = T[i].kids) := Lib.hid (by rw [kidsF_at hi, if_pos k2])
          obtain ⟨ks, hks⟩ : ∃ ks, T[i].kids = ks := ⟨_, rfl⟩
          have HKS := Lib.hid hks
          have hksl : ks.length ≤ 1048576 := by rw [← hks]; exact HC.out.kids _ (List.getElem_mem hi)
          generalize T[i].kind = kd at c0 d2
          clear k2 hks
          go_wp2_with fail
          refine SD.out.mono ?_
          rintro e w2 ⟨⟨hs, rfl⟩ | ⟨hs, rfl⟩, hb2⟩
          · have HN := Lib.hid (dep_step HI.out hi hir K2.out hs)
            have HKL := Lib.hid (kidsF_lt hi hs)
            rw [HKS0.out, HKS.out] at HKL
            rw [HKS.out] at HN
            have HBE2 := Lib.hid (HBE.out.trans (hb2.mono HBE.out.size))
            have HB2 := Lib.hid (HB.out.keeps (Keeps.of_below hb2) trivial)
            have himl : i < m.length := by rw [HML.out]; omega
            have HZ : Hid (IlW w2 w0.heap.size (m.set i (maxK m (ks.take 0)))) := Lib.hid (by
              have e0 : m[i] = 0 := HI.out.zero i himl (Nat.le_refl _)
              have e1 : m.set i (maxK m (ks.take 0)) = m := by
                show m.set i 0 = m
                conv => lhs; rw [← e0]
                exact List.set_getElem_self himl
              rw [e1]; exact HB2.out)
            have HMX : Hid (∀ q, 0 ≤ maxK m (ks.take q) ∧ maxK m (ks.take q) ≤ (i : Int)) := Lib.hid (fun q => maxK_bnd (i := i) HI.out.bnd (ks.take q) (fun x hx => HKL.out x (List.mem_of_mem_take hx)) 0 (by omega) (by omega))
            clear hs hb2 SD c0 d2
            go_wp2_with fail
            go_loopw [9] (fun k wr => ∃ q : Nat, q ≤ ks.length ∧ k = .int .i64 (q : Int) ∧ IlW wr w0.heap.size (m.set i (maxK m (ks.take q))) ∧ Below w.heap.size w wr) (fun k _ => ks.length - (intOf k).toNat)
            case atStart => exact ⟨0, Nat.zero_le _, rfl, HZ.out, HBE2.out⟩
            case round =>
              obtain ⟨q, hq, rfl, hBq, hbq⟩ := hrel
              have HBQ := Lib.hid hBq; have HBEQ := Lib.hid hbq
              obtain ⟨b', off', na', nc', eb, hbl', d0, -, -, -, -, -, d6, hkv⟩ := (HT.out.below hbq).at hi
              simp only [Option.some.injEq, Addr.mk.injEq, and_true] at eb
              obtain ⟨rfl, rfl⟩ := eb
              rw [HKS.out] at d6 hkv
              have HKV := Lib.hid hkv
              clear hBq hbq hkv
              by_cases hqk : q < ks.length
              · have hx := HKL.out ks[q] (List.getElem_mem hqk)
                have HSN := Lib.hid (maxK_snoc m hqk)
                have hkx := List.getElem?_eq_getElem hqk
                obtain ⟨y, hy⟩ : ∃ y : Nat, ks[q] = (y : Int) := ⟨ks[q].toNat, by omega⟩
                rw [hy] at hx hkx HSN
                have hyl : y < m.length := by rw [HML.out]; omega
                rw [Int.toNat_natCast, List.getElem?_eq_getElem hyl, Option.getD_some] at HSN
                obtain ⟨ao1, cap1, ee, hc1⟩ := HKV.out
                obtain ⟨b1, o1, x1, -, hcc1⟩ := hc1 (fun e => by rw [e] at hqk; simp at hqk)
                have c1' := hcc1 q _ hkx
                simp only [Value.slice.injEq] at ee
                obtain ⟨rfl, -, -⟩ := ee
                subst x1
                have g1 := HBQ.out.at (i := y) (by rw [List.length_set]; exact hyl)
                rw [List.getElem_set_ne (by omega)] at g1
                have g2 := HBQ.out.at (i := i) (by rw [List.length_set]; exact himl)
                rw [List.getElem_set_self] at g2
                obtain ⟨g1, -⟩ := g1
                obtain ⟨g2, f2⟩ := g2
                have hir1 : i < r + 1 := by omega
                have hyr1 : y < r + 1 := by omega
                generalize m[y] = my at *
                have HAMX := Lib.hid (HMX.out q)
                have HSET : Hid (∀ a : Int, (m.set i (maxK m (ks.take q))).set i a = m.set i a) := Lib.hid (fun a => by rw [List.set_set])
                generalize maxK m (ks.take q) = mx at *
                clear hcc1 hc1 hkx hy
                by_cases hgt : mx < my
                · have d1 : decide (mx < my) = true := decide_eq_true hgt
                  have HSN2 : Hid (maxK m (ks.take (q + 1)) = my) := Lib.hid (by rw [HSN.out]; omega)
                  clear hgt
                  go_wp2_with fail
                  go_quiet (fail)
                  go_wp2
                  go_roundw
                  case rel => exact ⟨q + 1, by omega, by go_num, by rw [HSN2.out, ← HSET.out]; exact (HBQ.out.keeps (Keeps.of_below (below_drewN (Below.refl _ _) _)) trivial).set, (below_drewN HBEQ.out _).setCell HB0.out.size _⟩
                  case measure => (simp [intOf]; try omega)
                · have d1 : decide (mx < my) = false := decide_eq_false hgt
                  have HSN2 : Hid (maxK m (ks.take (q + 1)) = mx) := Lib.hid (by rw [HSN.out]; omega)
                  clear hgt
                  go_wp2_with fail
                  go_quiet (fail)
                  go_wp2
                  go_roundw
                  case rel => exact ⟨q + 1, by omega, by go_num, by rw [HSN2.out]; exact HBQ.out.keeps (Keeps.of_below (below_drewN (Below.refl _ _) _)) trivial, below_drewN HBEQ.out _⟩
                  case measure => (simp [intOf]; try omega)
              · obtain rfl : q = ks.length := by omega
                have hbm := HMX.out ks.length
                rw [List.take_length] at HBQ hbm
                have g2 := HBQ.out.at (i := i) (by rw [List.length_set]; exact himl)
                rw [List.getElem_set_self] at g2
                obtain ⟨g2, f2⟩ := g2
                have HSET : Hid ((m.set i (maxK m ks)).set i (maxK m ks + 1) = m.set i (maxK m ks + 1)) := Lib.hid (by rw [List.set_set])
                have hir1 : i < r + 1 := by omega
                have e2 : wrap64 (maxK m ks + 1) = maxK m ks + 1 := IntWalk.wrap64_in _ (by omega)
                generalize maxK m ks = mx at *
                go_wp2
                go_roundw
                case rel => exact dep_rel (i := i + 1) (by omega) HN.out (by rw [← HSET.out]; exact HBQ.out.set) (HBEQ.out.setCell HB0.out.size _) (by omega)
                case measure => (simp [intOf]; try omega)
          · have HBE2 := Lib.hid (HBE.out.trans (hb2.mono HBE.out.size))
            have HB2 := Lib.hid (HB.out.keeps (Keeps.of_below hb2) trivial)
            have HN := Lib.hid (dep_skip HI.out (fun h => absurd (sound_snd h).2.1 hs))
            clear hs hb2 SD c0 d2
            go_wp2
            go_roundw
            case rel => exact dep_rel (i := i + 1) (by omega) HN.out HB2.out HBE2.out (by omega)
            case measure => (simp [intOf]; try omega)
        · have d2 : (T[i].kind != 2) = true := bne_iff_ne.2 k2
          have HN := Lib.hid (dep_skip HI.out (sound_zero hi k2))
          generalize T[i].kind = kd at c0 d2
          clear k2 SD
          go_wp2
          go_roundw
          case rel => exact dep_rel (i := i + 1) (by omega) HN.out HB.out HBE.out (by omega)
          case measure => (simp [intOf]; try omega)
      · obtain rfl : i = r + 1 := by omega
        have hrm : r < m.length := by rw [hI.len]; omega
        have HV := Lib.hid (hI.val r hrm (by omega) HS.out)
        obtain ⟨g1, -⟩ := hB.at hrm
        rw [HV.out] at g1
        clear hI hB hbel
        obtain ⟨y, hy⟩ : ∃ y, numF baseD moreD T r = y := ⟨_, rfl⟩
        rw [hy] at g1 HV
        have HY := Lib.hid hy
        clear hy
        go_wp2
        go_ret2
        exact ⟨.inl ⟨HS.out, by rw [HY.out]; rfl⟩, HBE.out⟩
end Go.Proofs.YtnbnnkdepceciaaGreatDoor
