/- PVF PVG PVH. -/
import Derived.Test.YtpkdiciinhjfjaaGreatDoorPS1
set_option linter.unusedVariables false
set_option linter.unusedSimpArgs false
/- SexpOwn: the walk. -/
namespace Go.Proofs.YtpkdiciinhjfjaaGreatDoor
open Go.RowKit Mth

def UniB (B : Nat) (w' : World) (T : List Nd) (F : List Int) (n m : Nat) (l c x : Int) (e : Ending) : Prop := ∃ na nc fa fc, e = .returned (.tuple #[.slice na n nc, .slice fa m fc, .int .i64 l, .int .i64 c, .int .i64 x]) ∧ n ≤ nc ∧ SxB w' B (.slice na n nc) T ∧ InX w' (fun b => B ≤ b) (.slice fa m fc) F
theorem unip_b {B : Nat} {w' : World} {L : List Tk} {e : Ending} (h : UniP B w' L e) : UniB B w' (ndsR L) (frR L) (ndsR L).length (frR L).length (plR L).1 (plR L).2 (errR L) e := by
  obtain ⟨na, n, nc, fa, m, fc, rfl, rfl, rfl, h1, h2, h3⟩ := h
  exact ⟨na, nc, fa, fc, rfl, h1, h2, h3⟩
theorem parseB (L : List Tk) (v : Value) (w : World) (hL : LexW w) (hv : TkL w v L) (hlen : L.length ≤ 1048576) (ht : ∀ x ∈ L, x.t.size ≤ 1048576) : Calls Tryz.prog 6 #[v] w fun e w' => UniB w.heap.size w' (ndsR L) (frR L) (ndsR L).length (frR L).length (plR L).1 (plR L).2 (errR L) e ∧ Below w.heap.size w w' :=
  (parse_any L v w hL hv hlen ht).mono fun e w' h => ⟨unip_b (parse_unip h), h.1⟩
theorem rparseB (L : List Tk) (v : Value) (w : World) (hv : TkL w v L) (hlen : L.length ≤ 1048576) (ht : ∀ x ∈ L, x.t.size ≤ 1048576) : Calls Tryz.prog 7 #[v] w fun e w' => UniB w.heap.size w' (ndsR L) (frR L) (ndsR L).length (frR L).length (plR L).1 (plR L).2 (errR L) e ∧ Below w.heap.size w w' :=
  (rparse_any L v w hv hlen ht).mono fun e w' h => ⟨unip_b h.1, h.2⟩
def tkTurn : Tk := ⟨0, ⟨#[116, 117, 114, 110, 101, 100]⟩, false, 0, 0⟩
theorem tks_cons (x : Tk) (L : List Tk) : tksCells (x :: L) = tkCells x ++ tksCells L := List.flatMap_cons
theorem tks_set {A B : List Tk} {x y : Tk} : (((((tksCells (A ++ x :: B)).set (A.length * 5) (.int .i64 y.k)).set (A.length * 5 + 1) (.string y.t)).set (A.length * 5 + 2) (.bool y.q)).set (A.length * 5 + 3) (.int .i64 y.l)).set (A.length * 5 + 4) (.int .i64 y.c) = tksCells (A ++ y :: B) := by
  have h : ∀ (l : List Value) i u, (tksCells A ++ l).set (A.length * 5 + i) u = tksCells A ++ l.set i u := fun l i u => by
    rw [List.set_append, if_neg (by rw [tks_len]; omega), tks_len, show A.length * 5 + i - 5 * A.length = i by omega]
  have h0 := fun l u => h l 0 u
  simp only [Nat.add_zero] at h0
  rw [tks_app, tks_app, tks_cons, tks_cons, h0, h, h, h, h]
  rfl
theorem tks_at {A B : List Tk} {x : Tk} {j : Nat} (hj : j < 5) : (tksCells (A ++ x :: B))[A.length * 5 + j]? = (tkCells x)[j]? := by
  rw [tks_app, tks_cons, List.getElem?_append_right (by rw [tks_len]; omega), tks_len, show A.length * 5 + j - 5 * A.length = j by omega, List.getElem?_append_left (by simp [tkCells]; omega)]
theorem nds_kindS {s : Rd} {t : Tk} (h : ∀ nd ∈ s.nodes, nd.kind = 2 ∨ nd.kids = []) : ∀ nd ∈ (stepS s t).nodes, nd.kind = 2 ∨ nd.kids = [] := by
  unfold stepS
  split
  · exact h
  · split
    · split
      · intro nd hn
        rcases List.mem_append.1 hn with hn | hn
        · exact h nd hn
        · obtain rfl := List.mem_singleton.1 hn
          exact .inl rfl
      · exact h
    · intro nd hn
      rcases List.mem_append.1 hn with hn | hn
      · exact h nd hn
      · obtain rfl := List.mem_singleton.1 hn
        exact .inr rfl
theorem nds_kindR : ∀ (L : List Tk) (s : Rd), (∀ nd ∈ s.nodes, nd.kind = 2 ∨ nd.kids = []) → ∀ nd ∈ (runR s L).1.nodes, nd.kind = 2 ∨ nd.kids = []
  | [], s, h => h
  | t :: L, s, h => by
    rw [runR]
    split
    · exact nds_kindR L _ (nds_kindS h)
    · exact h
theorem nds_kind (L : List Tk) : ∀ nd ∈ ndsR L, nd.kind = 2 ∨ nd.kids = [] := by
  unfold ndsR
  split
  · exact nds_kindR L rd0 (fun nd h => by cases h)
  · intro nd h; cases h
theorem kids_len_of {T : List Nd} (h : ∀ nd ∈ T, nd.kind = 2 ∨ nd.kids = []) {i : Nat} (hi : i < T.length) : (kidsF T (i : Int)).length = T[i].kids.length := by
  unfold kidsF
  rw [ndAt_some hi]
  show (if T[i].kind = 2 then T[i].kids else []).length = _
  rcases h _ (List.getElem_mem hi) with h | h
  · rw [if_pos h]
  · split
    · rfl
    · rw [h]
/-- a row of ints of the call's own, whatever they are -/
def OwnI (w : World) (B : Nat) (v : Value) (n : Nat) : Prop := ∃ l : List Int, l.length = n ∧ w.ownsRow B 3 1 v l.length (inCells l)
theorem OwnI.set {w : World} {B g n cap j : Nat} {x : Int} (h : OwnI w B (.slice (some ⟨g, 0, none⟩) n cap) n) : OwnI (w.setCell ⟨g, j, none⟩ (.int .i64 x)) B (.slice (some ⟨g, 0, none⟩) n cap) n := by
  obtain ⟨l, rfl, h⟩ := h
  refine ⟨l.set j x, List.length_set, ?_⟩
  have := own_setR (i := j) (x := .int .i64 x) h
  rw [List.length_set]
  unfold inCells at *
  rw [List.map_set]
  exact this
theorem OwnI.at {w : World} {B n : Nat} {v : Value} (h : OwnI w B v n) {j : Nat} (hj : j < n) : ∃ g cap y, v = .slice (some ⟨g, 0, none⟩) n cap ∧ B ≤ g ∧ w.cell? ⟨g, j, none⟩ = some (.int .i64 y) ∧ w.frozen? ⟨g, j, none⟩ = false := by
  obtain ⟨l, rfl, h⟩ := h
  obtain ⟨g, cap, rfl⟩ := own_some h (by omega)
  refine ⟨g, cap, l[j], rfl, (h.lt g rfl).1, ?_, own_free h _⟩
  rw [h.cellAt _ (by omega)]
  unfold inCells
  rw [List.getElem?_map, List.getElem?_eq_getElem hj]; rfl
/-- what the first loop holds -/
def OwnR (w w3 w5 : World) (v3 : Value) (L : List Tk) (i : Value) (wr : World) : Prop := ∃ k : Nat, k ≤ L.length ∧ i = .int .i64 (k : Int) ∧ Below w.heap.size w wr ∧ Keeps w5 wr (fun b => w3.heap.size ≤ b) ∧ wr.ownsRow w.heap.size 37 5 v3 L.length (tksCells (List.replicate k tkTurn ++ L.drop k))
theorem own_next {w w3 w5 wr : World} {L : List Tk} {g cap k : Nat} (hz : w.heap.size ≤ w3.heap.size) (hg : g < w3.heap.size) (hgb : w.heap.size ≤ g) (hk : k < L.length) (h1 : Below w.heap.size w wr) (h2 : Keeps w5 wr (fun b => w3.heap.size ≤ b)) (h3 : wr.ownsRow w.heap.size 37 5 (.slice (some ⟨g, 0, none⟩) L.length cap) L.length (tksCells (List.replicate k tkTurn ++ L.drop k))) :
    OwnR w w3 w5 (.slice (some ⟨g, 0, none⟩) L.length cap) L (.int .i64 ((k + 1 : Nat) : Int)) (((((wr.setCell ⟨g, k * 5, none⟩ (.int .i64 0)).setCell ⟨g, k * 5 + 1, none⟩ (.string ⟨#[116, 117, 114, 110, 101, 100]⟩)).setCell ⟨g, k * 5 + 2, none⟩ (.bool false)).setCell ⟨g, k * 5 + 3, none⟩ (.int .i64 0)).setCell ⟨g, k * 5 + 4, none⟩ (.int .i64 0)) := by
  have KS : Keeps wr (((((wr.setCell ⟨g, k * 5, none⟩ (.int .i64 0)).setCell ⟨g, k * 5 + 1, none⟩ (.string ⟨#[116, 117, 114, 110, 101, 100]⟩)).setCell ⟨g, k * 5 + 2, none⟩ (.bool false)).setCell ⟨g, k * 5 + 3, none⟩ (.int .i64 0)).setCell ⟨g, k * 5 + 4, none⟩ (.int .i64 0)) (fun b => b ≠ g) := ((((Keeps.set (w := wr) (g := g)).trans Keeps.set).trans Keeps.set).trans Keeps.set).trans Keeps.set
  refine ⟨k + 1, hk, rfl, h1.trans (KS.below h1.size (fun b hb => by omega)), h2.on KS (fun b _ hb => by omega), ?_⟩
  have h4 := own_setR (i := k * 5 + 4) (x := .int .i64 0) (own_setR (i := k * 5 + 3) (x := .int .i64 0) (own_setR (i := k * 5 + 2) (x := .bool false) (own_setR (i := k * 5 + 1) (x := .string ⟨#[116, 117, 114, 110, 101, 100]⟩) (own_setR (i := k * 5) (x := .int .i64 0) h3))))
  have e := tks_set (A := List.replicate k tkTurn) (B := L.drop (k + 1)) (x := L[k]) (y := tkTurn)
  rw [List.length_replicate] at e
  rw [List.drop_eq_getElem_cons hk] at h4
  have e2 : List.replicate (k + 1) tkTurn ++ L.drop (k + 1) = List.replicate k tkTurn ++ tkTurn :: L.drop (k + 1) := by rw [List.replicate_succ', List.append_assoc]; rfl
  rw [e2, ← e]
  exact h4
set_option maxHeartbeats 32000000 in
set_option maxRecDepth 100000 in
theorem own7_walk (w : World) (v : Value) (L : List Tk) (hv : TkL w v L) (hlen : L.length ≤ 1048576) (ht : ∀ x ∈ L, x.t.size ≤ 1048576) (hL : LexW w) : Calls Tryz.prog 5 #[v] w fun e w' => e = .returned (.bool true) ∧ Below w.heap.size w w' := by
  have HV := Lib.hid hv
  have P1 : Hid (∀ v W, Below w.heap.size w W → TkL W v L → Calls Tryz.prog 6 #[v] W fun e w' => UniB W.heap.size w' (ndsR L) (frR L) (ndsR L).length (frR L).length (plR L).1 (plR L).2 (errR L) e ∧ Below W.heap.size W w') := Lib.hid (fun v W hW hv => parseB L v W (hL.below hW) hv hlen ht)
  have P2 : Hid (∀ W, Below w.heap.size w W → Calls Tryz.prog 7 #[v] W fun e w' => UniB W.heap.size w' (ndsR L) (frR L) (ndsR L).length (frR L).length (plR L).1 (plR L).2 (errR L) e ∧ Below W.heap.size W w') := Lib.hid (fun W hW => rparseB L v W (hv.below hW) hlen ht)
  have AL : Hid (∀ W, Below w.heap.size w W → Calls Tryz.prog 10 #[] W fun e w' => e = .returned (.bool true) ∧ Below W.heap.size W w') := Lib.hid (fun W hW => alive7_any W (hL.below hW))
  obtain ⟨b1, b2, b3⟩ := nds_bounds L
  have KD := Lib.hid (nds_kind L)
  have hb1 : (ndsR L).length ≤ 1048576 := by omega
  have hb2 : (frR L).length ≤ 1048576 := by omega
  have HB : Hid (∀ nd ∈ ndsR L, nd.kids.length ≤ 1048576) := Lib.hid (fun nd h => by have := b3 nd h; omega)
  obtain ⟨ao, cap, rfl, -⟩ := hv
  clear hL ht b3 b1 b2
  generalize ndsR L = T at *
  generalize frR L = F at *
  generalize (plR L).1 = l at *
  generalize (plR L).2 = c at *
  generalize errR L = x at *
  have HX : Hid (∀ nd ∈ T, nd.kids.length ≤ 4611686018427387904) := Lib.hid (fun nd h => by have := HB.out nd h; omega)
  have d1 : (x != x) = false := bne_self_eq_false x
  go_enter Tryz.func5, Tryz.ntmps5
  go_wp2_with (at_builtin; refine append_tksL rfl _ _ rfl w.heap.size (.slice none 0 0) _ [] L rfl rfl (World.ownsRow_nil _ _ _ _) HV.out (by simp; omega) (Nat.le_refl _) ?_; intro v3 w3 hown3 hgr3 hor3; rw [List.nil_append] at hown3; obtain ⟨ao3, cap3, rfl⟩ := own_len hown3; have HO3 := Lib.hid hown3; have B3 := Lib.hid ((Keeps.of_grown hgr3).below (Nat.le_refl _) (fun b hb => by simp [Value.ownBlock])); clear hown3 hgr3 hor3)
  refine (P1.out _ _ B3.out (TkL.own HO3.out)).mono ?_
  rintro e w4 ⟨⟨na, nc, fa, fc, rfl, -, hs, hi⟩, hb4⟩
  have K4 := Lib.hid (Keeps.of_below hb4)
  have B4 := Lib.hid (belowT B3.out hb4)
  have S4 := Lib.hid hs; have I4 := Lib.hid hi
  clear hs hi hb4 P1
  go_wp2_with fail
  refine (P2.out _ B4.out).mono ?_
  rintro e w5 ⟨⟨na2, nc2, fa2, fc2, rfl, -, hs, hi⟩, hb5⟩
  have K5 := Lib.hid (Keeps.of_below hb5)
  have B5 := Lib.hid (belowT B4.out hb5)
  have S5 := Lib.hid (S4.out.keeps (K5.out.weak (fun _ _ _ => trivial)))
  have I5 := Lib.hid (I4.out.keeps (K5.out.weak (fun _ _ _ => trivial)) (fun _ _ hx => hx))
  have M5 := Lib.hid hs; have J5 := Lib.hid hi
  have hz43 : w3.heap.size ≤ w4.heap.size := K4.out.1
  have O5 : Hid (OwnR w w3 w5 (.slice ao3 L.length cap3) L (.int .i64 ((0 : Nat) : Int)) w5) := Lib.hid ⟨0, Nat.zero_le _, rfl, B5.out, Keeps.refl _ _, by
    have := own_keeps (own_keeps HO3.out K4.out (fun _ _ => trivial)) K5.out (fun _ _ => trivial)
    exact this⟩
  clear hs hi hb5 P2 S4 I4
  go_wp2_with fail
  go_loopw [14] (fun i wr => OwnR w w3 w5 (.slice ao3 L.length cap3) L i wr) (fun i _ => L.length - (intOf i).toNat)
  case atStart => exact O5.out
  case round =>
    obtain ⟨k, hk, rfl, h1, h2, h3⟩ := hrel
    have H1 := Lib.hid h1; have H2 := Lib.hid h2; have H3 := Lib.hid h3
    by_cases hlt : k < L.length
    · obtain ⟨g, cap', e⟩ := own_some h3 (by omega)
      simp only [Value.slice.injEq, true_and] at e
      obtain ⟨rfl, rfl⟩ := e
      have hg3 := HO3.out.lt g rfl
      have hx : L[k]? = some L[k] := List.getElem?_eq_getElem hlt
      obtain ⟨ao', cap', he, hc⟩ := HV.out.below h1
      obtain ⟨b, off, hb', hblt, hcc⟩ := hc (fun e => by rw [e] at hlt; simp at hlt)
      injection he with he1 he2 he3
      rw [hb'] at he1
      subst he1
      obtain ⟨a0, a1, a2, a3, a4⟩ := TkL.at hcc hx
      have hcell : ∀ j, j < 5 → wr.cell? ⟨g, k * 5 + j, none⟩ = (tkCells L[k])[j]? := fun j hj => by
        rw [h3.cellAt _ (by omega), List.drop_eq_getElem_cons hlt]
        have := tks_at (A := List.replicate k tkTurn) (B := L.drop (k + 1)) (x := L[k]) hj
        rwa [List.length_replicate] at this
      have c0 := hcell 0 (by omega); have c1 := hcell 1 (by omega); have c2 := hcell 2 (by omega); have c3 := hcell 3 (by omega); have c4 := hcell 4 (by omega)
      simp only [Nat.add_zero] at c0
      have HNX : Hid (∀ n, OwnR w w3 w5 (.slice (some ⟨g, 0, none⟩) L.length cap3) L (.int .i64 ((k + 1 : Nat) : Int)) ((((((wr.drewN n).setCell ⟨g, k * 5, none⟩ (.int .i64 0)).setCell ⟨g, k * 5 + 1, none⟩ (.string ⟨#[116, 117, 114, 110, 101, 100]⟩)).setCell ⟨g, k * 5 + 2, none⟩ (.bool false)).setCell ⟨g, k * 5 + 3, none⟩ (.int .i64 0)).setCell ⟨g, k * 5 + 4, none⟩ (.int .i64 0))) := Lib.hid (fun n => by
        have hd := Keeps.of_below (below_drewN (Below.refl wr.heap.size wr) n)
        exact own_next B3.out.size hg3.2 hg3.1 hlt (below_drewN h1 n) (h2.on hd (fun _ _ _ => trivial)) (own_keeps h3 hd (fun _ _ => trivial)))
      have fz : ∀ i, wr.frozen? ⟨g, i, none⟩ = false := fun i => own_free h3 i
      have f0 := fz (k * 5); have f1 := fz (k * 5 + 1); have f2 := fz (k * 5 + 2); have f3 := fz (k * 5 + 3); have f4 := fz (k * 5 + 4)
      clear hcc hc he2 he3 hx hcell h1 h2 h3 fz
      generalize L[k] = t at *
      obtain ⟨tk, tt, tq, tl, tc⟩ := t
      change wr.cell? ⟨g, k * 5, none⟩ = some (.int .i64 tk) at c0
      change wr.cell? ⟨g, k * 5 + 1, none⟩ = some (.string tt) at c1
      change wr.cell? ⟨g, k * 5 + 2, none⟩ = some (.bool tq) at c2
      change wr.cell? ⟨g, k * 5 + 3, none⟩ = some (.int .i64 tl) at c3
      change wr.cell? ⟨g, k * 5 + 4, none⟩ = some (.int .i64 tc) at c4
      dsimp only at a0 a1 a2 a3 a4
      go_wp2_with fail
      go_quiet (fail)
      go_wp2
      go_roundw
      case rel => exact HNX.out _
      case measure => simp [intOf]; omega
    · obtain rfl : k = L.length := by omega
      have SN := Lib.hid (S5.out.keeps h2)
      have IN := Lib.hid (I5.out.keeps h2 (fun _ _ hx => hx))
      have SM := Lib.hid (M5.out.keeps (h2.weak (fun b _ hb => by omega)))
      have IM := Lib.hid (J5.out.keeps (h2.weak (fun b _ hb => by omega)) (fun _ _ hx => hx))
      have C1 := Lib.hid (same7_any T _ _ wr SN.out.sx SM.out.sx (by omega) HX.out)
      have C2 : Hid (∀ m, Calls Tryz.prog 9 #[.slice fa F.length fc, .slice fa2 F.length fc2] (wr.drewN m) fun e w' => e = .returned (.bool true) ∧ ∃ q, w' = (wr.drewN m).drewN q) := Lib.hid (fun m => by
        have h := sameInts_any _ _ F F _ (IN.out.inL.below (dr_below wr m)) (IM.out.inL.below (dr_below wr m)) (by omega)
        rw [decide_eq_true rfl] at h
        exact h)
      clear h1 h2 h3
      go_wp2_with fail
      refine C1.out.mono ?_
      rintro e w6 ⟨rfl, m6, rfl⟩
      clear C1
      go_wp2_with fail
      refine (C2.out m6).mono ?_
      rintro e w7 ⟨rfl, q7, hq7⟩
      have B7' : Below wr.heap.size wr w7 := by rw [hq7, World.drewN_drewN]; exact below_drewN (Below.refl _ _) _
      have B7 := Lib.hid (belowT H1.out B7')
      have SN7 := Lib.hid (SN.out.sx.below B7')
      have SM7 := Lib.hid (SM.out.sx.below B7')
      clear C2 hq7 B7' SN IN SM IM
      go_wp2_with fail
      go_loopw [15] (fun i w9 => ∃ k : Nat, k ≤ T.length ∧ i = .int .i64 (k : Int) ∧ Below w7.heap.size w7 w9) (fun i _ => T.length - (intOf i).toNat)
      case atStart => exact ⟨0, Nat.zero_le _, rfl, Below.refl _ _⟩
      case round =>
        obtain ⟨k2, hk2, rfl, hb8⟩ := hrel
        rename World => w8
        have B8 := Lib.hid hb8
        by_cases hlt2 : k2 < T.length
        · have hkl := kids_len_of KD.out hlt2
          have hk3 := HB.out _ (List.getElem_mem hlt2)
          have KC := Lib.hid (kids_any _ T (k2 : Int) w8 (SN7.out.below hb8) (by rw [hkl]; exact hk3))
          obtain ⟨b, off, ka, kc, rfl, hbl, -, -, -, -, -, -, t6, -⟩ := (SN7.out.below hb8).at hlt2
          rw [hkl] at KC
          generalize T[k2].kids.length = n at *
          have T6 := Lib.hid t6
          clear hb8 hkl t6
          go_wp2_with fail
          refine KC.out.mono ?_
          rintro e w9 ⟨kv, rfl, hown, hb9⟩
          have HB9 := Lib.hid hb9
          have OI : Hid (OwnI w9 w8.heap.size kv n) := Lib.hid ⟨kidsF T (k2 : Int), by
            obtain ⟨h1, _⟩ := hown
            rw [in_len] at h1
            omega, by
            have h1 := hown.1
            rw [in_len] at h1
            rw [show (kidsF T (k2 : Int)).length = n by omega]
            exact hown⟩
          obtain ⟨ko, kcap, rfl⟩ := own_len hown
          clear hb9 hown KC
          go_wp2_with fail
          go_loopw [17] (fun i w10 => ∃ j : Nat, j ≤ n ∧ i = .int .i64 (j : Int) ∧ Below w8.heap.size w8 w10 ∧ OwnI w10 w8.heap.size (.slice ko n kcap) n) (fun i _ => n - (intOf i).toNat)
          case atStart => exact ⟨0, Nat.zero_le _, rfl, HB9.out, OI.out⟩
          case round =>
            obtain ⟨j, hj, rfl, hb10, ho10⟩ := hrel
            rename World => w10
            have HB10 := Lib.hid hb10; have HO10 := Lib.hid ho10
            by_cases hjl : j < n
            · obtain ⟨g, cap', y, e, hgB, p0, p1⟩ := ho10.at hjl
              simp only [Value.slice.injEq, true_and] at e
              obtain ⟨rfl, rfl⟩ := e
              clear hb10 ho10
              go_wp2_with fail
              go_roundw
              case rel => exact ⟨j + 1, hjl, rfl, HB10.out.trans ((Keeps.set (g := g)).below HB10.out.size (fun b hb => by omega)), HO10.out.set⟩
              case measure => simp [intOf]; omega
            · obtain rfl : j = n := by omega
              obtain ⟨l', hl', hown'⟩ := ho10
              have HOW := Lib.hid hown'
              have T610 := Lib.hid ((hb10.cell (p := ⟨b, off + k2 * 7 + 6, none⟩) hbl).trans T6.out)
              have hl8 : l'.length ≤ 1048576 := by omega
              have d2 : (((j : Int) + 1) != ((j : Int) + 1)) = false := bne_self_eq_false _
              have HL := Lib.hid hl'
              clear hb10 hown' hl'
              go_wp2_with (at_builtin; refine append_inL rfl _ _ rfl w8.heap.size _ l' w10.heap.size 1 7 rfl rfl (own_keeps HOW.out (Keeps.alloc w10 _) (fun _ _ => trivial)) (heap_alloc_new w10 _) (by omega) (by have := HB10.out.size; simp; omega) ?_; intro v11 w11 hown11 hgr11 hor11; obtain ⟨a11, c11, rfl⟩ := own_len hown11; have KK := ((Keeps.alloc w10 (Obj.cells #[.int .i64 7] 3)).weak (Y := fun b => (Value.slice ko j kcap).ownBlock ≠ some b) (fun _ _ _ => trivial)).trans (Keeps.of_grown hgr11); have B11 := Lib.hid (HB10.out.trans (KK.below HB10.out.size (fun b hb e => by have := (HOW.out.lt b e).1; omega))); have t611 : w11.cell? ⟨b, off + k2 * 7 + 6, none⟩ = some (.slice ka j kc) := (KK.cell (Nat.lt_of_lt_of_le hbl HB10.out.size) (fun e => by have := (HOW.out.lt b e).1; omega)).trans T610.out; have e11 : (l' ++ [7]).length = j + 1 := (by rw [List.length_append, HL.out]; rfl); rw [e11]; clear hown11 hgr11 hor11 KK e11)
              go_roundw
              case rel => exact ⟨k2 + 1, hlt2, rfl, B8.out.trans (B11.out.mono B8.out.size)⟩
              case measure => simp [intOf]; omega
        · obtain rfl : k2 = T.length := by omega
          have C3 := Lib.hid (same7_any T _ _ w8 (SN7.out.below hb8) (SM7.out.below hb8) (by omega) HX.out)
          have BL8 := Lib.hid (B7.out.trans (hb8.mono B7.out.size))
          clear hb8
          go_wp2_with fail
          refine C3.out.mono ?_
          rintro e w9 ⟨rfl, m9, rfl⟩
          have BL9 := Lib.hid (below_drewN BL8.out m9)
          clear C3
          go_wp2_with fail
          refine (AL.out _ BL9.out).mono ?_
          rintro e w10 ⟨rfl, hb10⟩
          have BL10 := Lib.hid (belowT BL9.out hb10)
          clear hb10
          go_wp2
          go_ret
          exact ⟨rfl, BL10.out⟩
end Go.Proofs.YtpkdiciinhjfjaaGreatDoor

/- SexpDeep: mathematics; an append that leaves the row that it is made to. -/
namespace Go.Proofs.YtpkdiciinhjfjaaGreatDoor
open Go.RowKit Mth

def tkO (i : Nat) : Tk := ⟨1, ⟨#[40]⟩, false, 1, (i : Int) + 1⟩
def tkX (k : Nat) : Tk := ⟨8, ⟨#[120]⟩, false, 1, (k : Int) + 1⟩
def tkC (i : Nat) : Tk := ⟨2, ⟨#[41]⟩, false, 2, (i : Int) + 1⟩
def opsL (k : Nat) : List Tk := (List.range k).map tkO
def clsL (k : Nat) : List Tk := (List.range k).map tkC
def deepL (k : Nat) : List Tk := opsL k ++ ([tkX k] ++ clsL k)
theorem good_O (i : Nat) : Good (tkO i) := good_open
theorem good_C (i : Nat) : Good (tkC i) := good_close
theorem good_X (k : Nat) : Good (tkX k) := by
  refine ⟨8, rfl, by show 0 < (⟨#[120]⟩ : ByteArray).size; decide, by show (⟨#[120]⟩ : ByteArray).size ≤ _; decide, ?_⟩
  have e : wrB (tkX k) = ⟨#[120]⟩ := rfl
  rw [e, word_tok (s := ⟨#[120]⟩) (p := 0) (q := 1) (by decide) (by intro i i1 i2; obtain rfl : i = 0 := (by omega); decide) (by decide) (by decide) (.inl (by decide))]
  rfl
theorem opsL_succ (k : Nat) : opsL (k + 1) = opsL k ++ [tkO k] := by unfold opsL; rw [List.range_succ, List.map_append]; rfl
theorem clsL_succ (k : Nat) : clsL (k + 1) = clsL k ++ [tkC k] := by unfold clsL; rw [List.range_succ, List.map_append]; rfl
theorem opsL_len (k : Nat) : (opsL k).length = k := by unfold opsL; rw [List.length_map, List.length_range]
theorem clsL_len (k : Nat) : (clsL k).length = k := by unfold clsL; rw [List.length_map, List.length_range]
theorem deepL_len (k : Nat) : (deepL k).length = 2 * k + 1 := by unfold deepL; rw [List.length_append, List.length_append, opsL_len, clsL_len]; simp; omega
def stO (k : Nat) : List (Tk × Nat) := (opsL k).map fun t => (t, 0)
theorem stO_succ (k : Nat) : stO (k + 1) = stO k ++ [(tkO k, 0)] := by unfold stO; rw [opsL_succ, List.map_append]; rfl
theorem stO_len (k : Nat) : (stO k).length = k := by unfold stO; rw [List.length_map, opsL_len]
theorem run_opens : ∀ (k : Nat) (R : List Tk), k ≤ 4096 → runR rd0 (opsL k ++ R) = runR ⟨[], [], stO k⟩ R
  | 0, R, _ => rfl
  | k + 1, R, h => by
    rw [opsL_succ, List.append_assoc, run_opens k _ (by omega)]
    show runR _ (tkO k :: R) = _
    rw [run_ok (stepE_ok (good_O k) (fun _ => by show (stO k).length ≠ 4096; rw [stO_len]; omega) (fun h => by cases h))]
    rw [show stepS ⟨[], [], stO k⟩ (tkO k) = ⟨[], [], stO k ++ [(tkO k, 0)]⟩ from if_pos rfl, ← stO_succ]
theorem opsL_add (a m : Nat) : opsL (a + (m + 1)) = opsL a ++ (tkO a :: (List.range m).map fun i => tkO (a + (i + 1))) := by
  unfold opsL
  rw [List.range_add, List.map_append, List.range_succ_eq_map (n := m)]
  simp
theorem full_E {a : Nat} (h : a = 4096) : stepE ⟨[], [], stO a⟩ (tkO a) = 72 := by
  unfold stepE
  rw [if_neg (not_not_intro (good_O _)), if_pos (show (tkO a).k = 1 from rfl)]
  show (if (stO a).length = 4096 then (72 : Int) else 0) = _
  rw [if_pos (by rw [stO_len]; exact h)]
theorem run_deepA {a k : Nat} (ha : a = 4096) (h : a < k) (R : List Tk) : ∃ s, runR rd0 (opsL k ++ R) = (s, some (tkO a, 72)) := by
  obtain ⟨m, rfl⟩ : ∃ m, k = a + (m + 1) := ⟨k - a - 1, by omega⟩
  rw [opsL_add, List.append_assoc, run_opens a _ (by omega), List.cons_append]
  exact ⟨_, by rw [runR, if_neg (by rw [full_E ha]; decide), full_E ha]⟩
theorem run_deep {k : Nat} (h : 4096 < k) (R : List Tk) : ∃ s, runR rd0 (opsL k ++ R) = (s, some (tkO 4096, 72)) := run_deepA rfl h R
def ndD (k j : Nat) : List Nd := ⟨1, tkX k, []⟩ :: (List.range j).map fun i => ⟨2, tkO (k - 1 - i), [(i : Int)]⟩
theorem ndD_succ (k j : Nat) : ndD k (j + 1) = ndD k j ++ [⟨2, tkO (k - 1 - j), [(j : Int)]⟩] := by unfold ndD; rw [List.range_succ, List.map_append]; rfl
theorem ndD_len (k j : Nat) : (ndD k j).length = j + 1 := by unfold ndD; rw [List.length_cons, List.length_map, List.length_range]
theorem run_closes (k : Nat) (R : List Tk) : ∀ j, j ≤ k → runR ⟨ndD k 0, [0], stO k⟩ (clsL j ++ R) = runR ⟨ndD k j, [(j : Int)], stO (k - j)⟩ R
  | 0, _ => rfl
  | j + 1, h => by
    have ih := run_closes k ([tkC j] ++ R) j (by omega)
    rw [clsL_succ, List.append_assoc, ih]
    obtain ⟨m, hm⟩ : ∃ m, k - j = m + 1 := ⟨k - j - 1, by omega⟩
    rw [hm, stO_succ, show k - (j + 1) = m by omega]
    show runR _ (tkC j :: R) = _
    rw [run_ok (stepE_ok (good_C j) (fun h => by cases h) (fun _ => by simp))]
    have e : stepS ⟨ndD k j, [(j : Int)], stO m ++ [(tkO m, 0)]⟩ (tkC j) = ⟨ndD k (j + 1), [((j + 1 : Nat) : Int)], stO m⟩ := by
      unfold stepS
      rw [if_neg (show ¬ (tkC j).k = 1 by show ¬ (2 : Int) = 1; decide), if_pos (show (tkC j).k = 2 from rfl)]
      show (match (stO m ++ [(tkO m, 0)]).getLast? with | some (u, k') => _ | none => _) = _
      rw [List.getLast?_concat, ndD_succ, show k - 1 - j = m by omega]
      show (⟨_, _, (stO m ++ [(tkO m, 0)]).dropLast⟩ : Rd) = _
      rw [List.dropLast_concat]
      show (⟨_, [((ndD k j).length : Int)], _⟩ : Rd) = _
      rw [ndD_len]
      rfl
    rw [e]
theorem run_deepL {k : Nat} (h : k ≤ 4096) : runR rd0 (deepL k) = (⟨ndD k k, [(k : Int)], []⟩, none) := by
  unfold deepL
  rw [run_opens k _ h]
  show runR _ (tkX k :: clsL k) = _
  rw [run_ok (stepE_ok (good_X k) (fun h => by cases h) (fun h => by cases h))]
  have e : stepS ⟨[], [], stO k⟩ (tkX k) = ⟨ndD k 0, [0], stO k⟩ := by
    unfold stepS
    rw [if_neg (show ¬ (tkX k).k = 1 by show ¬ (8 : Int) = 1; decide), if_neg (show ¬ (tkX k).k = 2 by show ¬ (8 : Int) = 2; decide)]
    rfl
  have := run_closes k [] k (Nat.le_refl _)
  rw [List.append_nil] at this
  rw [e, this, Nat.sub_self]
  rfl
theorem deep_ok {k : Nat} (h : k ≤ 4096) : errR (deepL k) = 0 ∧ ndsR (deepL k) = ndD k k ∧ frR (deepL k) = [(k : Int)] := by
  have hr := run_deepL h
  have he : errR (deepL k) = 0 := by unfold errR; rw [hr]; rfl
  exact ⟨he, by unfold ndsR; rw [he, if_pos rfl, hr], by unfold frR; rw [he, if_pos rfl, hr]⟩
theorem deep_bad {k : Nat} (h : 4096 < k) : errR (deepL k) = 72 ∧ ndsR (deepL k) = [] ∧ frR (deepL k) = [] ∧ plR (deepL k) = (1, 4097) := by
  obtain ⟨s, hr⟩ := run_deep h ([tkX k] ++ clsL k)
  have he : errR (deepL k) = 72 := by unfold errR deepL; rw [hr]
  refine ⟨he, by unfold ndsR; rw [he, if_neg (by decide)], by unfold frR; rw [he, if_neg (by decide)], ?_⟩
  unfold plR deepL
  rw [hr]
  rfl
theorem ndD_at {k j : Nat} (hj : j < k) (h : j + 1 < (ndD k k).length) : (ndD k k)[j + 1] = ⟨2, tkO (k - 1 - j), [(j : Int)]⟩ := by
  have e : (ndD k k)[j + 1]? = some ⟨2, tkO (k - 1 - j), [(j : Int)]⟩ := by
    unfold ndD
    rw [List.getElem?_cons_succ, List.getElem?_map, List.getElem?_range hj]
    rfl
  exact (List.getElem?_eq_some_iff.1 e).2
theorem ndD_sound (k : Nat) : ∀ j, j ≤ k → Sound (ndD k k) j
  | 0, _ => .mk 0 (by rw [ndD_len]; omega) (.inl ⟨rfl, good_X k, by show (8 : Int) ≠ 1; decide, by show (8 : Int) ≠ 2; decide⟩) (fun h => by cases h)
  | j + 1, h => by
    have hl : j + 1 < (ndD k k).length := by rw [ndD_len]; omega
    have e := ndD_at (k := k) (j := j) (by omega) hl
    refine .mk (j + 1) hl (.inr ?_) (fun _ x hx => ?_)
    · rw [e]
      refine ⟨rfl, fun x hx => ?_⟩
      obtain rfl := List.mem_singleton.1 hx
      omega
    · rw [e] at hx
      obtain rfl := List.mem_singleton.1 hx
      exact ndD_sound k j (by omega)
theorem ndD_depth (k : Nat) : ∀ j, j ≤ k → numF baseD moreD (ndD k k) j = (j : Int)
  | 0, _ => by
    rw [numF, List.getElem?_eq_getElem (by rw [ndD_len]; omega)]
    rfl
  | j + 1, h => by
    have hl : j + 1 < (ndD k k).length := by rw [ndD_len]; omega
    have ih := ndD_depth k j (by omega)
    rw [numF, List.getElem?_eq_getElem hl, ndD_at (by omega) hl]
    show moreD 1 (if _h : (j : Int).toNat < j + 1 then numF baseD moreD (ndD k k) (j : Int).toNat else 0) = _
    rw [dif_pos (by omega), Int.toNat_natCast, ih]
    unfold moreD
    omega
theorem ndD_tab {k : Nat} (h : k ≤ 4096) : TabC (ndD k k) := by
  have hm : ∀ nd ∈ ndD k k, nd.tok.t.size ≤ 1048576 ∧ nd.kids.length ≤ 1048576 := fun nd hn => by
    rcases List.mem_cons.1 hn with rfl | hn
    · exact ⟨by show (⟨#[120]⟩ : ByteArray).size ≤ _; decide, by show 0 ≤ _; omega⟩
    · obtain ⟨i, _, rfl⟩ := List.mem_map.1 hn
      exact ⟨by show (⟨#[40]⟩ : ByteArray).size ≤ _; decide, by show 1 ≤ _; omega⟩
  exact ⟨by rw [ndD_len]; omega, fun nd hn => (hm nd hn).1, fun nd hn => (hm nd hn).2⟩
theorem deepL_size (k : Nat) : ∀ x ∈ deepL k, x.t.size ≤ 1048576 := fun x hx => by
  unfold deepL opsL clsL at hx
  rcases List.mem_append.1 hx with hx | hx
  · obtain ⟨i, _, rfl⟩ := List.mem_map.1 hx
    show (⟨#[40]⟩ : ByteArray).size ≤ _; decide
  · rcases List.mem_append.1 hx with hx | hx
    · obtain rfl := List.mem_singleton.1 hx
      show (⟨#[120]⟩ : ByteArray).size ≤ _; decide
    · obtain ⟨i, _, rfl⟩ := List.mem_map.1 hx
      show (⟨#[41]⟩ : ByteArray).size ≤ _; decide
/-- append(l, ys...) of tokens: the new row; the old one stays what it was -/
theorem append_tksK {w : World} {ops : Array Oper} {rest : List Oper} {o : Oper} {a : Act} {Q : Exit → Act → World → Prop} (hgd : o.guard = none) (s x : Operand)
    (ho : o.op = .call { callee := .builtin .append, args := #[s, x], argTypes := #[22, 22] }) (base g n cap : Nat) (u : Value) (xs ys : List Tk)
    (hs : a.eval s = .slice (some ⟨g, 0, none⟩) n cap) (hx : a.eval x = u) (hn : xs.length = n) (hown : w.ownsRow base 37 5 (.slice (some ⟨g, 0, none⟩) n cap) n (tksCells xs)) (hu : TkL w u ys) (hlen : xs.length + ys.length ≤ 2097152) (hbase : base ≤ w.heap.size)
    (h : ∀ v' w', TkL w' v' (xs ++ ys) → w'.ownsRow base 37 5 (.slice (some ⟨g, 0, none⟩) n cap) n (tksCells xs) → Keeps w w' (fun b => b ≠ g) → wpList Tryz.prog ops Q rest (a.put o.dst v') w') : wpList Tryz.prog ops Q (o :: rest) a w := by
  obtain ⟨i0, hi, hz0, hz1, hz2⟩ := info_parts info_tok
  obtain ⟨ao, ucap, rfl, hc⟩ := hu
  have hgl := hown.lt g rfl
  cases ao with
  | none =>
    have h0 : ys = [] := by
      rcases Classical.em (ys = []) with h0 | h0
      · exact h0
      · obtain ⟨b, off, e, _⟩ := hc h0
        cases e
    subst h0
    refine Lib.wpList_append_run_sl w hgd s x 22 ho _ _ hs hx (run_append_nothing w 22 22 o.type 37 i0 Tryz.underlying22 hi _ n cap (own_cap hown) _ (Src.ofNil w Tryz.underlying22 ucap)) ?_
    refine h _ _ ?_ hown (Keeps.refl _ _)
    rw [List.append_nil]
    subst hn
    exact TkL.own hown
  | some ad =>
    have hcell : ∀ j u, (tksCells ys)[j]? = some u → w.cell? (ad.add j) = some u := fun j u hj => by
      have hjl : 0 < ys.length := by
        have := (List.getElem?_eq_some_iff.1 hj).1
        rw [tks_len] at this; omega
      obtain ⟨b, off, e, _, hcc⟩ := hc (fun e => by rw [e] at hjl; simp at hjl)
      obtain rfl := Option.some.inj e
      rw [Addr.add_lit]
      exact hcc j _ hj
    have hone : ∀ y ∈ tksCells ys, y.oneCell' = true := fun y hy => by
      obtain ⟨t, _, ht⟩ := List.mem_flatMap.1 hy
      simp [tkCells] at ht
      rcases ht with rfl | rfl | rfl | rfl | rfl <;> rfl
    have hyl : (tksCells ys).length = ys.length * i0.size := by rw [tks_len, hz1, Nat.mul_comm]
    obtain ⟨hl0, ⟨e, _⟩ | ⟨g', cap', cur, e, hb, hh, h1, h2, h3, h4⟩⟩ := hown
    · cases e
    · cases e
      have hxl : (tksCells xs).length = n * 5 := hl0
      by_cases hroom : n + ys.length ≤ cap
      · have hfit : n * i0.size + (tksCells ys).length ≤ cur.size := by rw [hyl, h3, hz1, ← Nat.add_mul]; exact Nat.mul_le_mul_right _ hroom
        refine Lib.wpList_append_run_sl w hgd s x 22 ho _ _ hs hx (run_append_room (P := Tryz.prog) w 22 o.type 37 i0 Tryz.underlying22 hi g n cap cur hh ad ys.length ucap (tksCells ys) hyl hcell hone hroom hfit) ?_
        have hrow := setRow_heap w g cur (cur.toList.take (n * i0.size) ++ tksCells ys ++ cur.toList.drop (n * i0.size + (tksCells ys).length)).toArray 37 (0, 0) hh
        have hsz : (cur.toList.take (n * i0.size) ++ tksCells ys ++ cur.toList.drop (n * i0.size + (tksCells ys).length)).toArray.size = cap * 5 := by
          simp only [List.size_toArray, List.length_append, List.length_take, List.length_drop, Array.length_toList]
          omega
        have ht : cur.toList.take (n * i0.size) = tksCells xs := by rw [hz1]; exact h4
        refine h _ _ (TkL.own (base := base) ⟨by rw [tks_len]; omega, .inr ⟨g, cap, _, by rw [List.length_append, hn], hb, hrow, by rw [List.length_append, hn]; exact hroom, h2, hsz, ?_⟩⟩) ⟨hl0, .inr ⟨g, cap, _, rfl, hb, hrow, h1, h2, hsz, ?_⟩⟩ ⟨by simp, fun k _ hk => setRow_other w g k _ hk, rfl, rfl, rfl⟩
        · rw [ht, ← tks_app, show (xs ++ ys).length * 5 = (tksCells (xs ++ ys)).length by rw [tks_len]; omega]
          exact List.take_left
        · rw [ht, List.append_assoc, ← hxl]
          exact List.take_left
      · have holds : ∀ j u, (tksCells xs)[j]? = some u → w.cell? ((⟨g, 0, none⟩ : Addr).add j) = some u := (show w.ownsRow base 37 5 (.slice (some ⟨g, 0, none⟩) n cap) n (tksCells xs) from ⟨hl0, .inr ⟨g, cap, cur, rfl, hb, hh, h1, h2, h3, h4⟩⟩).cells (g := g) rfl
        have hr := run_append_grow (P := Tryz.prog) w 22 o.type 37 i0 _ Tryz.underlying22 hi hz0 ⟨g, 0, none⟩ n cap (tksCells xs) (by rw [hz1]; exact hl0) holds ad ys.length ucap (tksCells ys) hyl hcell (by omega) (by omega) (growslice_fits (by omega) (by rw [hz2]; omega))
        refine Lib.wpList_append_run_sl w hgd s x 22 ho _ _ hs hx hr ?_
        have hk : Keeps w (w.drew.alloc (.cells ((tksCells xs).toArray ++ (tksCells ys).toArray ++ Builtin.zeroCells (Value.agg #[.int .i64 0, .string ⟨#[]⟩, .bool false, .int .i64 0, .int .i64 0]).cells (grownCap w (n + ys.length) cap 37 - (n + ys.length))) 37)) (fun _ => True) := Keeps.of_below ((Below.refl w.heap.size w).drew.alloc (by simp) _)
        refine h _ _ ?_ (own_keeps ⟨hl0, .inr ⟨g, cap, cur, rfl, hb, hh, h1, h2, h3, h4⟩⟩ hk (fun _ _ => trivial)) (hk.weak (fun _ _ _ => trivial))
        refine ⟨some ⟨w.heap.size, 0, none⟩, grownCap w (n + ys.length) cap 37, by rw [List.length_append, hn], fun _ => ⟨w.heap.size, 0, rfl, by simp, fun j u hj => ?_⟩⟩
        rw [Nat.zero_add]
        have hjl := (List.getElem?_eq_some_iff.1 hj).1
        rw [tks_app] at hj hjl
        rw [cell_of_row _ w.heap.size j _ 37 (0, 0) (heap_alloc_new w.drew _)]
        rw [Array.getElem?_append_left (by simp at hjl ⊢; omega)]
        simp only [← List.getElem?_toArray] at hj
        rw [← hj]
        simp
end Go.Proofs.YtpkdiciinhjfjaaGreatDoor

/- SexpDeep: the walk. -/
namespace Go.Proofs.YtpkdiciinhjfjaaGreatDoor
open Go.RowKit Mth

/-- a row of tokens under construction -/
def DpR (w : World) (xs : List Tk) (v : Value) (wr : World) : Prop := wr.ownsRow w.heap.size 37 5 v xs.length (tksCells xs) ∧ Below w.heap.size w wr
theorem dp_next {w w1 W w2 : World} {xs : List Tk} {y : Tk} {v v' : Value} (h : DpR w xs v w1) (hW : Keeps w1 W (fun _ => True)) (ho : w2.ownsRow w.heap.size 37 5 v' (xs ++ [y]).length (tksCells (xs ++ [y]))) (hg : W.grownBy w2 v.ownBlock) : DpR w (xs ++ [y]) v' w2 :=
  ⟨ho, h.2.trans (((hW.weak (Y := fun b => v.ownBlock ≠ some b) (fun _ _ _ => trivial)).trans (Keeps.of_grown hg)).below h.2.size (fun b hb e => by have := (h.1.lt b e).1; omega))⟩
set_option maxHeartbeats 32000000 in
set_option maxRecDepth 100000 in
theorem deep7_walk (w : World) (n : Nat) (v : Value) (I : List Tk) (hn : n < 65536) (hv : TkL w v I) (hlen : 6 * I.length ≤ 1048576) (ht : ∀ x ∈ I, x.t.size ≤ 1048576) (hL : LexW w) : Calls Tryz.prog 4 #[.int .u16 (n : Int), v] w fun e w' => e = .returned (.bool true) ∧ Below w.heap.size w w' := by
  obtain ⟨k, hk⟩ : ∃ k, n % 5000 = k := ⟨_, rfl⟩
  have hk5 : k < 5000 := by omega
  have e1 : (n : Int) % 5000 = (k : Int) := by omega
  have e2 : IntKind.i64.wrap (n : Int) = (n : Int) := by rw [IntKind.wrap_i64]; omega
  have HV := Lib.hid hv; have HT := Lib.hid ht
  have HLW := Lib.hid hL
  have AL : Hid (∀ W, Below w.heap.size w W → Calls Tryz.prog 10 #[] W fun e w' => e = .returned (.bool true) ∧ Below W.heap.size W w') := Lib.hid (fun W hW => alive7_any W (hL.below hW))
  obtain ⟨ao, cap, rfl, -⟩ := hv
  have hI : I.length ≤ 174763 := by omega
  clear ht hL hk
  have E1 := Lib.hid e1
  clear e1
  go_enter Tryz.func4, Tryz.ntmps4
  go_wp2_with fail
  rw [E1.out]
  go_loopw [6, 7] (fun v i wr => ∃ j : Nat, j ≤ k ∧ i = .int .i64 (j : Int) ∧ DpR w (opsL j) v wr) (fun _ i _ => k - (intOf i).toNat)
  case atStart => exact ⟨0, Nat.zero_le _, rfl, World.ownsRow_nil _ _ _ _, Below.refl _ _⟩
  case round =>
    obtain ⟨j, hj, rfl, hD⟩ := hrel
    rename World => w1
    have HD := Lib.hid hD
    obtain ⟨so, sc, rfl⟩ := own_len hD.1
    have hwz := hD.2.size
    by_cases hjl : j < k
    · obtain ⟨W, eW, gW, bW, hWs⟩ := allocS w1 (Obj.cells #[.int .i64 1, .string ⟨#[40]⟩, .bool false, .int .i64 1, .int .i64 ((j : Int) + 1)] 37)
      have KW := Lib.hid (Keeps.of_below bW)
      have GW : Hid (W.heap[w1.heap.size]? = some (.cells #[.int .i64 (tkO j).k, .string (tkO j).t, .bool (tkO j).q, .int .i64 (tkO j).l, .int .i64 (tkO j).c] 37 (0, 0))) := Lib.hid gW
      have OW := Lib.hid (own_keeps hD.1 KW.out (fun _ _ => trivial))
      have hlj := opsL_len j
      have HS := Lib.hid (opsL_succ j)
      have hWz : w.heap.size ≤ W.heap.size := Nat.le_trans hwz KW.out.1
      clear hD gW bW
      go_wp2_with (at_builtin; refine append_tokL rfl _ _ rfl w.heap.size _ (opsL j) (tkO j) w1.heap.size 1 rfl rfl (by first | exact OW.out | (rw [eW]; exact OW.out)) (by first | exact GW.out | (rw [eW]; exact GW.out)) (by omega) (by first | exact hWz | (rw [eW]; exact hWz)) ?_; (try rw [eW]); intro v3 w3 hown3 hgr3 hor3; have D3 := Lib.hid (dp_next HD.out KW.out hown3 hgr3); obtain ⟨ao3, n3, cap3, rfl⟩ := own_slc hown3; clear hown3 hgr3 hor3)
      go_roundw
      case rel => exact ⟨j + 1, hjl, rfl, by rw [HS.out]; exact D3.out⟩
      case measure => simp [intOf]; omega
    · obtain rfl : j = k := by omega
      obtain ⟨W, eW, gW, bW, hWs⟩ := allocS w1 (Obj.cells #[.int .i64 8, .string ⟨#[120]⟩, .bool false, .int .i64 1, .int .i64 ((j : Int) + 1)] 37)
      have KW := Lib.hid (Keeps.of_below bW)
      have GW : Hid (W.heap[w1.heap.size]? = some (.cells #[.int .i64 (tkX j).k, .string (tkX j).t, .bool (tkX j).q, .int .i64 (tkX j).l, .int .i64 (tkX j).c] 37 (0, 0))) := Lib.hid gW
      have OW := Lib.hid (own_keeps hD.1 KW.out (fun _ _ => trivial))
      have hlj := opsL_len j
      have hWz : w.heap.size ≤ W.heap.size := Nat.le_trans hwz KW.out.1
      clear hD gW bW
      go_wp2_with (at_builtin; refine append_tokL rfl _ _ rfl w.heap.size _ (opsL j) (tkX j) w1.heap.size 1 rfl rfl (by first | exact OW.out | (rw [eW]; exact OW.out)) (by first | exact GW.out | (rw [eW]; exact GW.out)) (by omega) (by first | exact hWz | (rw [eW]; exact hWz)) ?_; (try rw [eW]); intro v3 w3 hown3 hgr3 hor3; have D3 := Lib.hid (dp_next HD.out KW.out hown3 hgr3); obtain ⟨ao3, n3, cap3, rfl⟩ := own_slc hown3; clear hown3 hgr3 hor3)
      clear eW OW GW KW hWz hWs HD hwz hjl hj
      go_loopw [6, 8] (fun v i wr => ∃ q : Nat, q ≤ j ∧ i = .int .i64 (q : Int) ∧ DpR w (opsL j ++ ([tkX j] ++ clsL q)) v wr) (fun _ i _ => j - (intOf i).toNat)
      case atStart => exact ⟨0, Nat.zero_le _, rfl, D3.out⟩
      case round =>
        obtain ⟨q, hq, rfl, hD⟩ := hrel
        rename World => w4
        have HD := Lib.hid hD
        obtain ⟨so, sc, rfl⟩ := own_len hD.1
        have hwz := hD.2.size
        have hlq : (opsL j ++ ([tkX j] ++ clsL q)).length = j + 1 + q := by rw [List.length_append, List.length_append, opsL_len, clsL_len]; simp; omega
        by_cases hql : q < j
        · obtain ⟨W, eW, gW, bW, hWs⟩ := allocS w4 (Obj.cells #[.int .i64 2, .string ⟨#[41]⟩, .bool false, .int .i64 2, .int .i64 ((q : Int) + 1)] 37)
          have KW := Lib.hid (Keeps.of_below bW)
          have GW : Hid (W.heap[w4.heap.size]? = some (.cells #[.int .i64 (tkC q).k, .string (tkC q).t, .bool (tkC q).q, .int .i64 (tkC q).l, .int .i64 (tkC q).c] 37 (0, 0))) := Lib.hid gW
          have OW := Lib.hid (own_keeps hD.1 KW.out (fun _ _ => trivial))
          have HS : Hid (opsL j ++ ([tkX j] ++ clsL (q + 1)) = (opsL j ++ ([tkX j] ++ clsL q)) ++ [tkC q]) := Lib.hid (by rw [clsL_succ, List.append_assoc, List.append_assoc])
          have hWz : w.heap.size ≤ W.heap.size := Nat.le_trans hwz KW.out.1
          obtain ⟨xs, hxs⟩ : ∃ xs, opsL j ++ ([tkX j] ++ clsL q) = xs := ⟨_, rfl⟩
          rw [hxs] at HD OW HS hlq
          have HXS := Lib.hid hxs
          have HLQ := Lib.hid hlq
          have hlq2 : xs.length ≤ 10000 := by omega
          rw [hxs]
          clear hD gW bW hxs hlq
          go_wp2_with (at_builtin; refine append_tokL rfl _ _ rfl w.heap.size _ xs (tkC q) w4.heap.size 1 rfl rfl (by first | exact OW.out | (rw [eW]; exact OW.out)) (by first | exact GW.out | (rw [eW]; exact GW.out)) (by omega) (by first | exact hWz | (rw [eW]; exact hWz)) ?_; (try rw [eW]); intro v3 w3 hown3 hgr3 hor3; have D3 := Lib.hid (dp_next HD.out KW.out hown3 hgr3); obtain ⟨ao3, n3, cap3, rfl⟩ := own_slc hown3; clear hown3 hgr3 hor3)
          go_roundw
          case rel => exact ⟨q + 1, hql, rfl, by rw [HS.out]; exact D3.out⟩
          case measure => simp [intOf]; omega
        · obtain rfl : q = j := by omega
          have HDL : Hid (DpR w (deepL q) _ w4) := HD
          obtain ⟨g, gc, hg⟩ := own_some hD.1 (by rw [hlq]; omega)
          simp only [Value.slice.injEq, true_and] at hg
          obtain ⟨rfl, rfl⟩ := hg
          have hown : w4.ownsRow w.heap.size 37 5 (.slice (some ⟨g, 0, none⟩) (q + 1 + q) sc) (q + 1 + q) (tksCells (deepL q)) := by
            have := hD.1
            rw [hlq] at this
            exact this
          have HOW := Lib.hid hown
          have B4 := Lib.hid hD.2
          have PA := Lib.hid (parseA (deepL q) _ w4 (HLW.out.below hD.2) (TkL.own hD.1) (by rw [deepL_len]; omega) (deepL_size q))
          rw [hlq] at PA ⊢
          clear hD hown HD HDL hlq hwz
          by_cases hd : 4096 < q
          · obtain ⟨x1, x2, x3, x4⟩ := deep_bad hd
            rw [x1, x2, x3, x4] at PA
            clear x1 x2 x3 x4
            go_wp2_with fail
            refine PA.out.mono ?_
            rintro e w5 ⟨⟨na, nc, fa, fc, rfl, -, hs, hi⟩, hb5⟩
            have B5 := Lib.hid (belowT B4.out hb5)
            clear hb5 hs hi PA
            go_wp2_with fail
            refine (AL.out _ B5.out).mono ?_
            rintro e w6 ⟨rfl, hb6⟩
            have B6 := Lib.hid (belowT B5.out hb6)
            clear hb6
            go_wp2
            go_ret
            exact ⟨rfl, B6.out⟩
          · have hq4 : q ≤ 4096 := by omega
            obtain ⟨x1, x2, x3⟩ := deep_ok hq4
            rw [x1, x2, x3] at PA
            rw [ndD_len] at PA
            generalize (plR (deepL q)).1 = pl at *
            generalize (plR (deepL q)).2 = pc at *
            clear x1 x2 x3
            have DC : Hid (∀ tv W, SxL W tv (ndD q q) → LexW W → Calls Tryz.prog 11 #[tv, .int .i64 (q : Int)] W fun e w' => e = .returned (.tuple #[.int .i64 (q : Int), .int .i64 0]) ∧ Below W.heap.size W w') := Lib.hid (fun tv W hs hl => (depth_any (ndD_tab hq4) tv (q : Int) W hs hl).mono (by
              rintro e w' ⟨⟨h, _⟩ | ⟨k, hk, _, ⟨_, rfl⟩ | ⟨h, _⟩⟩, hb⟩
              · exact absurd ⟨by omega, by rw [ndD_len]; omega⟩ h
              · obtain rfl : k = q := by omega
                rw [ndD_depth k k (Nat.le_refl _)]
                exact ⟨rfl, hb⟩
              · obtain rfl : k = q := by omega
                exact absurd (ndD_sound k k (Nat.le_refl _)) h))
            have HLen : Hid ((deepL q).length = q + 1 + q) := Lib.hid (by rw [deepL_len]; omega)
            have HSZ : Hid (∀ x ∈ deepL q ++ I, x.t.size ≤ 1048576) := Lib.hid (fun x hx => (List.mem_append.1 hx).elim (deepL_size q x) (HT.out x))
            have HLEN : Hid ((deepL q ++ I).length ≤ 1048576) := Lib.hid (by rw [List.length_append, deepL_len]; omega)
            obtain ⟨b1, b2, b3⟩ := nds_bounds (deepL q ++ I)
            have HN : Hid ((ndsR (deepL q ++ I)).length ≤ 1048576) := Lib.hid (by have := HLEN.out; omega)
            have HX : Hid (∀ nd ∈ ndsR (deepL q ++ I), nd.kids.length ≤ 4611686018427387904) := Lib.hid (fun nd h => by have := b3 nd h; have := HLEN.out; omega)
            have P1 : Hid (∀ v W, Below w.heap.size w W → TkL W v (deepL q ++ I) → Calls Tryz.prog 6 #[v] W fun e w' => UniB W.heap.size w' (ndsR (deepL q ++ I)) (frR (deepL q ++ I)) (ndsR (deepL q ++ I)).length (frR (deepL q ++ I)).length (plR (deepL q ++ I)).1 (plR (deepL q ++ I)).2 (errR (deepL q ++ I)) e ∧ Below W.heap.size W w') := Lib.hid (fun v W hW hv => parseB _ v W (HLW.out.below hW) hv HLEN.out HSZ.out)
            have P2 : Hid (∀ v W, Below w.heap.size w W → TkL W v (deepL q ++ I) → Calls Tryz.prog 7 #[v] W fun e w' => UniA w' (ndsR (deepL q ++ I)) (frR (deepL q ++ I)) (ndsR (deepL q ++ I)).length (frR (deepL q ++ I)).length (plR (deepL q ++ I)).1 (plR (deepL q ++ I)).2 (errR (deepL q ++ I)) e ∧ Below W.heap.size W w') := Lib.hid (fun v W hW hv => rparseA _ v W hv HLEN.out HSZ.out)
            clear b1 b2 b3
            generalize ndsR (deepL q ++ I) = T at *
            generalize frR (deepL q ++ I) = F at *
            generalize (plR (deepL q ++ I)).1 = l at *
            generalize (plR (deepL q ++ I)).2 = c at *
            generalize errR (deepL q ++ I) = x at *
            have hql5 : q + 1 + q + I.length ≤ 2097152 := by omega
            obtain ⟨m2, hm2⟩ : ∃ m2, (deepL q ++ I).length = m2 := ⟨_, rfl⟩
            have HM2 := Lib.hid hm2
            clear hm2
            clear hd
            go_wp2_with fail
            refine PA.out.mono ?_
            rintro e w5 ⟨⟨na, nc, fa, fc, rfl, -, hs, hi⟩, hb5⟩
            have K5 := Lib.hid (Keeps.of_below hb5)
            have B5 := Lib.hid (belowT B4.out hb5)
            have O5 := Lib.hid (own_keeps HOW.out K5.out (fun _ _ => trivial))
            have DC5 := Lib.hid (DC.out _ w5 hs (HLW.out.below B5.out))
            obtain ⟨bf, of, ef, -, cf⟩ := hi.get (j := 0) (by simp)
            obtain rfl := ef
            change w5.cell? ⟨bf, of, none⟩ = some (.int .i64 (q : Int)) at cf
            clear hb5 hs hi PA DC
            go_wp2_with fail
            refine DC5.out.mono ?_
            rintro e w6 ⟨rfl, hb6⟩
            have B6 := Lib.hid (belowT B5.out hb6)
            have O6 := Lib.hid (own_keeps O5.out (Keeps.of_below hb6) (fun _ _ => trivial))
            have hz6 : w.heap.size ≤ w6.heap.size := B6.out.size
            clear hb6 DC5 cf
            go_wp2_with (at_builtin; refine append_tksK rfl _ _ rfl w.heap.size g (q + 1 + q) sc _ (deepL q) I rfl rfl HLen.out O6.out (HV.out.below B6.out) (by rw [HLen.out]; exact hql5) hz6 ?_; intro v7 w7 ht7 ho7 hb7; obtain ⟨ta7, tc7, rfl, -⟩ := id ht7; have T7 := Lib.hid ht7; rw [HM2.out] at T7; rw [HM2.out]; have O7 := Lib.hid ho7; have hg7 : w.heap.size ≤ g ∧ g < w7.heap.size := ho7.lt g rfl; have B7 := Lib.hid (B6.out.trans (hb7.below hz6 (fun b hb => by omega))); clear ht7 ho7 hb7)
            refine (P1.out _ _ B7.out T7.out).mono ?_
            rintro e w8 ⟨⟨na8, nc8, fa8, fc8, rfl, -, hs, hi⟩, hb8⟩
            have B8 := Lib.hid (belowT B7.out hb8)
            have O8 := Lib.hid (own_keeps O7.out (Keeps.of_below hb8) (fun _ _ => trivial))
            have S8 := Lib.hid hs
            have hz8 : w.heap.size ≤ w8.heap.size := B8.out.size
            clear hb8 hs hi P1 T7
            go_wp2_with (at_builtin; refine append_tksK rfl _ _ rfl w.heap.size g (q + 1 + q) sc _ (deepL q) I rfl rfl HLen.out O8.out (HV.out.below B8.out) (by rw [HLen.out]; exact hql5) hz8 ?_; intro v9 w9 ht9 ho9 hb9; obtain ⟨ta9, tc9, rfl, -⟩ := id ht9; have T9 := Lib.hid ht9; rw [HM2.out] at T9; rw [HM2.out]; have B9 := Lib.hid (B8.out.trans (hb9.below hz8 (fun b hb => by omega))); have S9 := Lib.hid (S8.out.keeps (hb9.weak (fun b _ hb => by omega))); clear ht9 ho9 hb9)
            refine (P2.out _ _ B9.out T9.out).mono ?_
            rintro e w10 ⟨⟨na10, nc10, fa10, fc10, rfl, -, hs, hi⟩, hb10⟩
            have B10 := Lib.hid (belowT B9.out hb10)
            have SM := Lib.hid (same7_any T _ _ w10 (S9.out.sx.below hb10) hs (by have := HN.out; omega) HX.out)
            have d1 : (l == l) = true := beq_self_eq_true l
            have d2 : (c == c) = true := beq_self_eq_true c
            have d3 : (x == x) = true := beq_self_eq_true x
            clear hb10 hs hi P2 T9
            go_wp2_with fail
            refine SM.out.mono ?_
            rintro e w11 ⟨rfl, m11, rfl⟩
            have B11 := Lib.hid (below_drewN B10.out m11)
            clear SM
            go_wp2_with fail
            refine (AL.out _ B11.out).mono ?_
            rintro e w12 ⟨rfl, hb12⟩
            have B12 := Lib.hid (belowT B11.out hb12)
            clear hb12
            go_wp2
            go_ret
            exact ⟨rfl, B12.out⟩
end Go.Proofs.YtpkdiciinhjfjaaGreatDoor
