/- SexpOwn: the walk. -/
import Derived.Test.YtpkdiciinhjfjaaGreatDoorPS1
set_option linter.unusedVariables false
set_option linter.unusedSimpArgs false
namespace Go.Proofs.YtpkdiciinhjfjaaGreatDoor
open Go.RowKit Mth

def UniB (B : Nat) (w' : World) (T : List Nd) (F : List Int) (n m : Nat) (l c x : Int) (e : Ending) : Prop := ∃ na nc fa fc, e = .returned (.tuple #[.slice na n nc, .slice fa m fc, .int .i64 l, .int .i64 c, .int .i64 x]) ∧ n ≤ nc ∧ SxB w' B (.slice na n nc) T ∧ InX w' (fun b => B ≤ b) (.slice fa m fc) F
theorem unip_b {B : Nat} {w' : World} {L : List Tk} {e : Ending} (h : UniP B w' L e) : UniB B w' (ndsR L) (frR L) (ndsR L).length (frR L).length (plR L).1 (plR L).2 (errR L) e := by
  obtain ⟨na, n, nc, fa, m, fc, rfl, rfl, rfl, h1, h2, h3⟩ := h
  exact ⟨na, nc, fa, fc, rfl, h1, h2, h3⟩
theorem parseB (L : List Tk) (v : Value) (w : World) (hL : LexW w) (hv : TkL w v L) (hlen : L.length ≤ 1048576) (ht : ∀ x ∈ L, x.t.size ≤ 1048576) : Calls Tryz.prog 6 #[v] w fun e w' => UniB w.heap.size w' (ndsR L) (frR L) (ndsR L).length (frR L).length (plR L).1 (plR L).2 (errR L) e ∧ Below w.heap.size w w' :=
  (parse_any L v w hL hv hlen ht).mono fun e w' h => ⟨unip_b (parse_unip h), h.1⟩
theorem rparseB (L : List Tk) (v : Value) (w : World) (hv : TkL w v L) (hlen : L.length ≤ 1048576) (ht : ∀ x ∈ L, x.t.size ≤ 1048576) : Calls Tryz.prog 7 #[v] w fun e w' => UniB w.heap.size w' (ndsR L) (frR L) (ndsR L).length (frR L).length (plR L).1 (plR L).2 (errR L) e ∧ Below w.heap.size w w' :=
  (rparse_any L v w hv hlen ht).mono fun e w' h => ⟨unip_b h.1, h.2⟩
def tkTurn : Tk := ⟨0, ⟨#[116, 117, 114, 110, 101, 100]⟩, false, 0, 0⟩
theorem tks_cons (x : Tk) (L : List Tk) : tksCells (x :: L) = tkCells x ++ tksCells L := List.flatMap_cons
theorem tks_set {A B : List Tk} {x y : Tk} : (((((tksCells (A ++ x :: B)).set (A.length * 5) (.int .i64 y.k)).set (A.length * 5 + 1) (.string y.t)).set (A.length * 5 + 2) (.bool y.q)).set (A.length * 5 + 3) (.int .i64 y.l)).set (A.length * 5 + 4) (.int .i64 y.c) = tksCells (A ++ y :: B) := by
  have h : ∀ (l : List Value) i u, (tksCells A ++ l).set (A.length * 5 + i) u = tksCells A ++ l.set i u := fun l i u => by
    rw [List.set_append, if_neg (by rw [tks_len]; omega), tks_len, show A.length * 5 + i - 5 * A.length = i by omega]
  have h0 := fun l u => h l 0 u
  simp only [Nat.add_zero] at h0
  rw [tks_app, tks_app, tks_cons, tks_cons, h0, h, h, h, h]
  rfl
theorem tks_at {A B : List Tk} {x : Tk} {j : Nat} (hj : j < 5) : (tksCells (A ++ x :: B))[A.length * 5 + j]? = (tkCells x)[j]? := by
  rw [tks_app, tks_cons, List.getElem?_append_right (by rw [tks_len]; omega), tks_len, show A.length * 5 + j - 5 * A.length = j by omega, List.getElem?_append_left (by simp [tkCells]; omega)]
theorem nds_kindS {s : Rd} {t : Tk} (h : ∀ nd ∈ s.nodes, nd.kind = 2 ∨ nd.kids = []) : ∀ nd ∈ (stepS s t).nodes, nd.kind = 2 ∨ nd.kids = [] := by
  unfold stepS
  split
  · exact h
  · split
    · split
      · intro nd hn
        rcases List.mem_append.1 hn with hn | hn
        · exact h nd hn
        · obtain rfl := List.mem_singleton.1 hn
          exact .inl rfl
      · exact h
    · intro nd hn
      rcases List.mem_append.1 hn with hn | hn
      · exact h nd hn
      · obtain rfl := List.mem_singleton.1 hn
        exact .inr rfl
theorem nds_kindR : ∀ (L : List Tk) (s : Rd), (∀ nd ∈ s.nodes, nd.kind = 2 ∨ nd.kids = []) → ∀ nd ∈ (runR s L).1.nodes, nd.kind = 2 ∨ nd.kids = []
  | [], s, h => h
  | t :: L, s, h => by
    rw [runR]
    split
    · exact nds_kindR L _ (nds_kindS h)
    · exact h
theorem nds_kind (L : List Tk) : ∀ nd ∈ ndsR L, nd.kind = 2 ∨ nd.kids = [] := by
  unfold ndsR
  split
  · exact nds_kindR L rd0 (fun nd h => by cases h)
  · intro nd h; cases h
theorem kids_len_of {T : List Nd} (h : ∀ nd ∈ T, nd.kind = 2 ∨ nd.kids = []) {i : Nat} (hi : i < T.length) : (kidsF T (i : Int)).length = T[i].kids.length := by
  unfold kidsF
  rw [ndAt_some hi]
  show (if T[i].kind = 2 then T[i].kids else []).length = _
  rcases h _ (List.getElem_mem hi) with h | h
  · rw [if_pos h]
  · split
    · rfl
    · rw [h]
/-- a row of ints of the call's own, whatever they are -/
def OwnI (w : World) (B : Nat) (v : Value) (n : Nat) : Prop := ∃ l : List Int, l.length = n ∧ w.ownsRow B 3 1 v l.length (inCells l)
theorem OwnI.set {w : World} {B g n cap j : Nat} {x : Int} (h : OwnI w B (.slice (some ⟨g, 0, none⟩) n cap) n) : OwnI (w.setCell ⟨g, j, none⟩ (.int .i64 x)) B (.slice (some ⟨g, 0, none⟩) n cap) n := by
  obtain ⟨l, rfl, h⟩ := h
  refine ⟨l.set j x, List.length_set, ?_⟩
  have := own_setR (i := j) (x := .int .i64 x) h
  rw [List.length_set]
  unfold inCells at *
  rw [List.map_set]
  exact this
theorem OwnI.at {w : World} {B n : Nat} {v : Value} (h : OwnI w B v n) {j : Nat} (hj : j < n) : ∃ g cap y, v = .slice (some ⟨g, 0, none⟩) n cap ∧ B ≤ g ∧ w.cell? ⟨g, j, none⟩ = some (.int .i64 y) ∧ w.frozen? ⟨g, j, none⟩ = false := by
  obtain ⟨l, rfl, h⟩ := h
  obtain ⟨g, cap, rfl⟩ := own_some h (by omega)
  refine ⟨g, cap, l[j], rfl, (h.lt g rfl).1, ?_, own_free h _⟩
  rw [h.cellAt _ (by omega)]
  unfold inCells
  rw [List.getElem?_map, List.getElem?_eq_getElem hj]; rfl
/-- what the first loop holds -/
def OwnR (w w3 w5 : World) (v3 : Value) (L : List Tk) (i : Value) (wr : World) : Prop := ∃ k : Nat, k ≤ L.length ∧ i = .int .i64 (k : Int) ∧ Below w.heap.size w wr ∧ Keeps w5 wr (fun b => w3.heap.size ≤ b) ∧ wr.ownsRow w.heap.size 37 5 v3 L.length (tksCells (List.replicate k tkTurn ++ L.drop k))
theorem own_next {w w3 w5 wr : World} {L : List Tk} {g cap k : Nat} (hz : w.heap.size ≤ w3.heap.size) (hg : g < w3.heap.size) (hgb : w.heap.size ≤ g) (hk : k < L.length) (h1 : Below w.heap.size w wr) (h2 : Keeps w5 wr (fun b => w3.heap.size ≤ b)) (h3 : wr.ownsRow w.heap.size 37 5 (.slice (some ⟨g, 0, none⟩) L.length cap) L.length (tksCells (List.replicate k tkTurn ++ L.drop k))) :
    OwnR w w3 w5 (.slice (some ⟨g, 0, none⟩) L.length cap) L (.int .i64 ((k + 1 : Nat) : Int)) (((((wr.setCell ⟨g, k * 5, none⟩ (.int .i64 0)).setCell ⟨g, k * 5 + 1, none⟩ (.string ⟨#[116, 117, 114, 110, 101, 100]⟩)).setCell ⟨g, k * 5 + 2, none⟩ (.bool false)).setCell ⟨g, k * 5 + 3, none⟩ (.int .i64 0)).setCell ⟨g, k * 5 + 4, none⟩ (.int .i64 0)) := by
  have KS : Keeps wr (((((wr.setCell ⟨g, k * 5, none⟩ (.int .i64 0)).setCell ⟨g, k * 5 + 1, none⟩ (.string ⟨#[116, 117, 114, 110, 101, 100]⟩)).setCell ⟨g, k * 5 + 2, none⟩ (.bool false)).setCell ⟨g, k * 5 + 3, none⟩ (.int .i64 0)).setCell ⟨g, k * 5 + 4, none⟩ (.int .i64 0)) (fun b => b ≠ g) := ((((Keeps.set (w := wr) (g := g)).trans Keeps.set).trans Keeps.set).trans Keeps.set).trans Keeps.set
  refine ⟨k + 1, hk, rfl, h1.trans (KS.below h1.size (fun b hb => by omega)), h2.on KS (fun b _ hb => by omega), ?_⟩
  have h4 := own_setR (i := k * 5 + 4) (x := .int .i64 0) (own_setR (i := k * 5 + 3) (x := .int .i64 0) (own_setR (i := k * 5 + 2) (x := .bool false) (own_setR (i := k * 5 + 1) (x := .string ⟨#[116, 117, 114, 110, 101, 100]⟩) (own_setR (i := k * 5) (x := .int .i64 0) h3))))
  have e := tks_set (A := List.replicate k tkTurn) (B := L.drop (k + 1)) (x := L[k]) (y := tkTurn)
  rw [List.length_replicate] at e
  rw [List.drop_eq_getElem_cons hk] at h4
  have e2 : List.replicate (k + 1) tkTurn ++ L.drop (k + 1) = List.replicate k tkTurn ++ tkTurn :: L.drop (k + 1) := by rw [List.replicate_succ', List.append_assoc]; rfl
  rw [e2, ← e]
  exact h4
set_option maxHeartbeats 32000000 in
set_option maxRecDepth 100000 in
theorem own7_walk (w : World) (v : Value) (L : List Tk) (hv : TkL w v L) (hlen : L.length ≤ 1048576) (ht : ∀ x ∈ L, x.t.size ≤ 1048576) (hL : LexW w) : Calls Tryz.prog 5 #[v] w fun e w' => e = .returned (.bool true) ∧ Below w.heap.size w w' := by
  have HV := Lib.hid hv
  have P1 : Hid (∀ v W, Below w.heap.size w W → TkL W v L → Calls Tryz.prog 6 #[v] W fun e w' => UniB W.heap.size w' (ndsR L) (frR L) (ndsR L).length (frR L).length (plR L).1 (plR L).2 (errR L) e ∧ Below W.heap.size W w') := Lib.hid (fun v W hW hv => parseB L v W (hL.below hW) hv hlen ht)
  have P2 : Hid (∀ W, Below w.heap.size w W → Calls Tryz.prog 7 #[v] W fun e w' => UniB W.heap.size w' (ndsR L) (frR L) (ndsR L).length (frR L).length (plR L).1 (plR L).2 (errR L) e ∧ Below W.heap.size W w') := Lib.hid (fun W hW => rparseB L v W (hv.below hW) hlen ht)
  have AL : Hid (∀ W, Below w.heap.size w W → Calls Tryz.prog 10 #[] W fun e w' => e = .returned (.bool true) ∧ Below W.heap.size W w') := Lib.hid (fun W hW => alive7_any W (hL.below hW))
  obtain ⟨b1, b2, b3⟩ := nds_bounds L
  have KD := Lib.hid (nds_kind L)
  have hb1 : (ndsR L).length ≤ 1048576 := by omega
  have hb2 : (frR L).length ≤ 1048576 := by omega
  have HB : Hid (∀ nd ∈ ndsR L, nd.kids.length ≤ 1048576) := Lib.hid (fun nd h => by have := b3 nd h; omega)
  obtain ⟨ao, cap, rfl, -⟩ := hv
  clear hL ht b3 b1 b2
  generalize ndsR L = T at *
  generalize frR L = F at *
  generalize (plR L).1 = l at *
  generalize (plR L).2 = c at *
  generalize errR L = x at *
  have HX : Hid (∀ nd ∈ T, nd.kids.length ≤ 4611686018427387904) := Lib.hid (fun nd h => by have := HB.out nd h; omega)
  have d1 : (x != x) = false := bne_self_eq_false x
  go_enter Tryz.func5, Tryz.ntmps5
  go_wp2_with (at_builtin; refine append_tksL rfl _ _ rfl w.heap.size (.slice none 0 0) _ [] L rfl rfl (World.ownsRow_nil _ _ _ _) HV.out (by simp; omega) (Nat.le_refl _) ?_; intro v3 w3 hown3 hgr3 hor3; rw [List.nil_append] at hown3; obtain ⟨ao3, cap3, rfl⟩ := own_len hown3; have HO3 := Lib.hid hown3; have B3 := Lib.hid ((Keeps.of_grown hgr3).below (Nat.le_refl _) (fun b hb => by simp [Value.ownBlock])); clear hown3 hgr3 hor3)
  refine (P1.out _ _ B3.out (TkL.own HO3.out)).mono ?_
  rintro e w4 ⟨⟨na, nc, fa, fc, rfl, -, hs, hi⟩, hb4⟩
  have K4 := Lib.hid (Keeps.of_below hb4)
  have B4 := Lib.hid (belowT B3.out hb4)
  have S4 := Lib.hid hs; have I4 := Lib.hid hi
  clear hs hi hb4 P1
  go_wp2_with fail
  refine (P2.out _ B4.out).mono ?_
  rintro e w5 ⟨⟨na2, nc2, fa2, fc2, rfl, -, hs, hi⟩, hb5⟩
  have K5 := Lib.hid (Keeps.of_below hb5)
  have B5 := Lib.hid (belowT B4.out hb5)
  have S5 := Lib.hid (S4.out.keeps (K5.out.weak (fun _ _ _ => trivial)))
  have I5 := Lib.hid (I4.out.keeps (K5.out.weak (fun _ _ _ => trivial)) (fun _ _ hx => hx))
  have M5 := Lib.hid hs; have J5 := Lib.hid hi
  have hz43 : w3.heap.size ≤ w4.heap.size := K4.out.1
  have O5 : Hid (OwnR w w3 w5 (.slice ao3 L.length cap3) L (.int .i64 ((0 : Nat) : Int)) w5) := Lib.hid ⟨0, Nat.zero_le _, rfl, B5.out, Keeps.refl _ _, by
    have := own_keeps (own_keeps HO3.out K4.out (fun _ _ => trivial)) K5.out (fun _ _ => trivial)
    exact this⟩
  clear hs hi hb5 P2 S4 I4
  go_wp2_with fail
  go_loopw [14] (fun i wr => OwnR w w3 w5 (.slice ao3 L.length cap3) L i wr) (fun i _ => L.length - (intOf i).toNat)
  case atStart => exact O5.out
  case round =>
    obtain ⟨k, hk, rfl, h1, h2, h3⟩ := hrel
    have H1 := Lib.hid h1; have H2 := Lib.hid h2; have H3 := Lib.hid h3
    by_cases hlt : k < L.length
    · obtain ⟨g, cap', e⟩ := own_some h3 (by omega)
      simp only [Value.slice.injEq, true_and] at e
      obtain ⟨rfl, rfl⟩ := e
      have hg3 := HO3.out.lt g rfl
      have hx : L[k]? = some L[k] := List.getElem?_eq_getElem hlt
      obtain ⟨ao', cap', he, hc⟩ := HV.out.below h1
      obtain ⟨b, off, hb', hblt, hcc⟩ := hc (fun e => by rw [e] at hlt; simp at hlt)
      injection he with he1 he2 he3
      rw [hb'] at he1
      subst he1
      obtain ⟨a0, a1, a2, a3, a4⟩ := TkL.at hcc hx
      have hcell : ∀ j, j < 5 → wr.cell? ⟨g, k * 5 + j, none⟩ = (tkCells L[k])[j]? := fun j hj => by
        rw [h3.cellAt _ (by omega), List.drop_eq_getElem_cons hlt]
        have := tks_at (A := List.replicate k tkTurn) (B := L.drop (k + 1)) (x := L[k]) hj
        rwa [List.length_replicate] at this
      have c0 := hcell 0 (by omega); have c1 := hcell 1 (by omega); have c2 := hcell 2 (by omega); have c3 := hcell 3 (by omega); have c4 := hcell 4 (by omega)
      simp only [Nat.add_zero] at c0
      have HNX : Hid (∀ n, OwnR w w3 w5 (.slice (some ⟨g, 0, none⟩) L.length cap3) L (.int .i64 ((k + 1 : Nat) : Int)) ((((((wr.drewN n).setCell ⟨g, k * 5, none⟩ (.int .i64 0)).setCell ⟨g, k * 5 + 1, none⟩ (.string ⟨#[116, 117, 114, 110, 101, 100]⟩)).setCell ⟨g, k * 5 + 2, none⟩ (.bool false)).setCell ⟨g, k * 5 + 3, none⟩ (.int .i64 0)).setCell ⟨g, k * 5 + 4, none⟩ (.int .i64 0))) := Lib.hid (fun n => by
        have hd := Keeps.of_below (below_drewN (Below.refl wr.heap.size wr) n)
        exact own_next B3.out.size hg3.2 hg3.1 hlt (below_drewN h1 n) (h2.on hd (fun _ _ _ => trivial)) (own_keeps h3 hd (fun _ _ => trivial)))
      have fz : ∀ i, wr.frozen? ⟨g, i, none⟩ = false := fun i => own_free h3 i
      have f0 := fz (k * 5); have f1 := fz (k * 5 + 1); have f2 := fz (k * 5 + 2); have f3 := fz (k * 5 + 3); have f4 := fz (k * 5 + 4)
      clear hcc hc he2 he3 hx hcell h1 h2 h3 fz
      generalize L[k] = t at *
      obtain ⟨tk, tt, tq, tl, tc⟩ := t
      change wr.cell? ⟨g, k * 5, none⟩ = some (.int .i64 tk) at c0
      change wr.cell? ⟨g, k * 5 + 1, none⟩ = some (.string tt) at c1
      change wr.cell? ⟨g, k * 5 + 2, none⟩ = some (.bool tq) at c2
      change wr.cell? ⟨g, k * 5 + 3, none⟩ = some (.int .i64 tl) at c3
      change wr.cell? ⟨g, k * 5 + 4, none⟩ = some (.int .i64 tc) at c4
      dsimp only at a0 a1 a2 a3 a4
      go_wp2_with fail
      go_quiet (fail)
      go_wp2
      go_roundw
      case rel => exact HNX.out _
      case measure => simp [intOf]; omega
    · obtain rfl : k = L.length := by omega
      have SN := Lib.hid (S5.out.keeps h2)
      have IN := Lib.hid (I5.out.keeps h2 (fun _ _ hx => hx))
      have SM := Lib.hid (M5.out.keeps (h2.weak (fun b _ hb => by omega)))
      have IM := Lib.hid (J5.out.keeps (h2.weak (fun b _ hb => by omega)) (fun _ _ hx => hx))
      have C1 := Lib.hid (same7_any T _ _ wr SN.out.sx SM.out.sx (by omega) HX.out)
      have C2 : Hid (∀ m, Calls Tryz.prog 9 #[.slice fa F.length fc, .slice fa2 F.length fc2] (wr.drewN m) fun e w' => e = .returned (.bool true) ∧ ∃ q, w' = (wr.drewN m).drewN q) := Lib.hid (fun m => by
        have h := sameInts_any _ _ F F _ (IN.out.inL.below (dr_below wr m)) (IM.out.inL.below (dr_below wr m)) (by omega)
        rw [decide_eq_true rfl] at h
        exact h)
      clear h1 h2 h3
      go_wp2_with fail
      refine C1.out.mono ?_
      rintro e w6 ⟨rfl, m6, rfl⟩
      clear C1
      go_wp2_with fail
      refine (C2.out m6).mono ?_
      rintro e w7 ⟨rfl, q7, hq7⟩
      have B7' : Below wr.heap.size wr w7 := by rw [hq7, World.drewN_drewN]; exact below_drewN (Below.refl _ _) _
      have B7 := Lib.hid (belowT H1.out B7')
      have SN7 := Lib.hid (SN.out.sx.below B7')
      have SM7 := Lib.hid (SM.out.sx.below B7')
      clear C2 hq7 B7' SN IN SM IM
      go_wp2_with fail
      go_loopw [15] (fun i w9 => ∃ k : Nat, k ≤ T.length ∧ i = .int .i64 (k : Int) ∧ Below w7.heap.size w7 w9) (fun i _ => T.length - (intOf i).toNat)
      case atStart => exact ⟨0, Nat.zero_le _, rfl, Below.refl _ _⟩
      case round =>
        obtain ⟨k2, hk2, rfl, hb8⟩ := hrel
        rename World => w8
        have B8 := Lib.hid hb8
        by_cases hlt2 : k2 < T.length
        · have hkl := kids_len_of KD.out hlt2
          have hk3 := HB.out _ (List.getElem_mem hlt2)
          have KC := Lib.hid (kids_any _ T (k2 : Int) w8 (SN7.out.below hb8) (by rw [hkl]; exact hk3))
          obtain ⟨b, off, ka, kc, rfl, hbl, -, -, -, -, -, -, t6, -⟩ := (SN7.out.below hb8).at hlt2
          rw [hkl] at KC
          generalize T[k2].kids.length = n at *
          have T6 := Lib.hid t6
          clear hb8 hkl t6
          go_wp2_with fail
          refine KC.out.mono ?_
          rintro e w9 ⟨kv, rfl, hown, hb9⟩
          have HB9 := Lib.hid hb9
          have OI : Hid (OwnI w9 w8.heap.size kv n) := Lib.hid ⟨kidsF T (k2 : Int), by
            obtain ⟨h1, _⟩ := hown
            rw [in_len] at h1
            omega, by
            have h1 := hown.1
            rw [in_len] at h1
            rw [show (kidsF T (k2 : Int)).length = n by omega]
            exact hown⟩
          obtain ⟨ko, kcap, rfl⟩ := own_len hown
          clear hb9 hown KC
          go_wp2_with fail
          go_loopw [17] (fun i w10 => ∃ j : Nat, j ≤ n ∧ i = .int .i64 (j : Int) ∧ Below w8.heap.size w8 w10 ∧ OwnI w10 w8.heap.size (.slice ko n kcap) n) (fun i _ => n - (intOf i).toNat)
          case atStart => exact ⟨0, Nat.zero_le _, rfl, HB9.out, OI.out⟩
          case round =>
            obtain ⟨j, hj, rfl, hb10, ho10⟩ := hrel
            rename World => w10
            have HB10 := Lib.hid hb10; have HO10 := Lib.hid ho10
            by_cases hjl : j < n
            · obtain ⟨g, cap', y, e, hgB, p0, p1⟩ := ho10.at hjl
              simp only [Value.slice.injEq, true_and] at e
              obtain ⟨rfl, rfl⟩ := e
              clear hb10 ho10
              go_wp2_with fail
              go_roundw
              case rel => exact ⟨j + 1, hjl, rfl, HB10.out.trans ((Keeps.set (g := g)).below HB10.out.size (fun b hb => by omega)), HO10.out.set⟩
              case measure => simp [intOf]; omega
            · obtain rfl : j = n := by omega
              obtain ⟨l', hl', hown'⟩ := ho10
              have HOW := Lib.hid hown'
              have T610 := Lib.hid ((hb10.cell (p := ⟨b, off + k2 * 7 + 6, none⟩) hbl).trans T6.out)
              have hl8 : l'.length ≤ 1048576 := by omega
              have d2 : (((j : Int) + 1) != ((j : Int) + 1)) = false := bne_self_eq_false _
              have HL := Lib.hid hl'
              clear hb10 hown' hl'
              go_wp2_with (at_builtin; refine append_inL rfl _ _ rfl w8.heap.size _ l' w10.heap.size 1 7 rfl rfl (own_keeps HOW.out (Keeps.alloc w10 _) (fun _ _ => trivial)) (heap_alloc_new w10 _) (by omega) (by have := HB10.out.size; simp; omega) ?_; intro v11 w11 hown11 hgr11 hor11; obtain ⟨a11, c11, rfl⟩ := own_len hown11; have KK := ((Keeps.alloc w10 (Obj.cells #[.int .i64 7] 3)).weak (Y := fun b => (Value.slice ko j kcap).ownBlock ≠ some b) (fun _ _ _ => trivial)).trans (Keeps.of_grown hgr11); have B11 := Lib.hid (HB10.out.trans (KK.below HB10.out.size (fun b hb e => by have := (HOW.out.lt b e).1; omega))); have t611 : w11.cell? ⟨b, off + k2 * 7 + 6, none⟩ = some (.slice ka j kc) := (KK.cell (Nat.lt_of_lt_of_le hbl HB10.out.size) (fun e => by have := (HOW.out.lt b e).1; omega)).trans T610.out; have e11 : (l' ++ [7]).length = j + 1 := (by rw [List.length_append, HL.out]; rfl); rw [e11]; clear hown11 hgr11 hor11 KK e11)
              go_roundw
              case rel => exact ⟨k2 + 1, hlt2, rfl, B8.out.trans (B11.out.mono B8.out.size)⟩
              case measure => simp [intOf]; omega
        · obtain rfl : k2 = T.length := by omega
          have C3 := Lib.hid (same7_any T _ _ w8 (SN7.out.below hb8) (SM7.out.below hb8) (by omega) HX.out)
          have BL8 := Lib.hid (B7.out.trans (hb8.mono B7.out.size))
          clear hb8
          go_wp2_with fail
          refine C3.out.mono ?_
          rintro e w9 ⟨rfl, m9, rfl⟩
          have BL9 := Lib.hid (below_drewN BL8.out m9)
          clear C3
          go_wp2_with fail
          refine (AL.out _ BL9.out).mono ?_
          rintro e w10 ⟨rfl, hb10⟩
          have BL10 := Lib.hid (belowT BL9.out hb10)
          clear hb10
          go_wp2
          go_ret
          exact ⟨rfl, BL10.out⟩
end Go.Proofs.YtpkdiciinhjfjaaGreatDoor
