/- lexis: Join. -/
import Derived.Test.YtlgcmpiobglbbaaDoorKD
import Derived.Lib.AppendStr
set_option linter.unusedVariables false
set_option linter.unusedSimpArgs false
namespace Go.Proofs.YtlgcmpiobglbbaaDoor
open Go.RowKit Mth

/-- the blank ahead of a token -/
def sepL (pk : Option Int) (k : Int) : List UInt8 := match pk with
  | none => []
  | some p => if p ≠ 1 ∧ k ≠ 2 then [32] else []
def wrT (x : Tk) : List UInt8 := wrL x.k x.t.data.toList x.q
/-- tokens one behind the other -/
def catL : Option Int → List Tk → List UInt8
  | _, [] => []
  | pk, x :: r => sepL pk x.k ++ wrT x ++ catL (some x.k) r
def lastK : Option Int → List Tk → Option Int
  | pk, [] => pk
  | _, x :: r => lastK (some x.k) r
theorem cat_snoc : ∀ (L : List Tk) (pk : Option Int) (x : Tk), catL pk (L ++ [x]) = catL pk L ++ (sepL (lastK pk L) x.k ++ wrT x)
  | [], pk, x => by simp [catL, lastK]
  | y :: L, pk, x => by
    rw [List.cons_append, catL, catL, cat_snoc L, lastK]
    simp
theorem last_snoc : ∀ (L : List Tk) (pk : Option Int) (x : Tk), lastK pk (L ++ [x]) = some x.k
  | [], pk, x => rfl
  | y :: L, pk, x => by rw [List.cons_append, lastK, last_snoc L]
theorem cat_next {L : List Tk} {i : Nat} {x : Tk} (h : L[i]? = some x) : catL none (L.take (i + 1)) = catL none (L.take i) ++ (sepL (lastK none (L.take i)) x.k ++ wrT x) := by
  rw [List.take_add_one, h, Option.toList_some, cat_snoc]
theorem last_next {L : List Tk} {i : Nat} {x : Tk} (h : L[i]? = some x) : lastK none (L.take (i + 1)) = some x.k := by
  rw [List.take_add_one, h, Option.toList_some, last_snoc]
theorem cat_mono {L : List Tk} : ∀ (d i : Nat), (catL none (L.take i)).length ≤ (catL none (L.take (i + d))).length
  | 0, i => Nat.le_refl _
  | d + 1, i => by
    refine Nat.le_trans (cat_mono d i) ?_
    by_cases h : i + d < L.length
    · rw [show i + (d + 1) = i + d + 1 from rfl, cat_next (List.getElem?_eq_getElem h), List.length_append]; omega
    · rw [List.take_of_length_le (by omega), List.take_of_length_le (by omega)]; exact Nat.le_refl _
theorem sep_le (pk : Option Int) (k : Int) : (sepL pk k).length ≤ 1 := by
  unfold sepL
  split
  · simp
  · split <;> simp
theorem wrB_eq (x : Tk) : wrB x = ⟨(wrT x).toArray⟩ := rfl
theorem wrT_len (x : Tk) : (wrT x).length = (wrB x).size := (size_list _).symm

theorem own_shape {w : World} {base size n : Nat} {e : TypeId} {v : Value} {xs : List Value} (h : w.ownsRow base e size v n xs) : ∃ ao cap, v = .slice ao n cap ∧ (ao = none → n = 0 ∧ cap = 0) := by
  obtain ⟨h0, h1⟩ := h
  rcases h1 with ⟨rfl, rfl⟩ | ⟨g, cap, cur, rfl, _⟩
  · exact ⟨none, 0, rfl, fun _ => ⟨rfl, rfl⟩⟩
  · exact ⟨some ⟨g, 0, none⟩, cap, rfl, fun e => by cases e⟩
/-- the bytes of a text under construction -/
def bCells (D : List UInt8) : List Value := Lib.strCells ⟨D.toArray⟩
theorem bCells_app (D E : List UInt8) : bCells (D ++ E) = bCells D ++ bCells E := by simp [bCells, Lib.strCells]
theorem conv_own {w : World} {base : Nat} {v : Value} {D : List UInt8} (h : w.ownsRow base 5 1 v D.length (bCells D)) :
    (convert 62 9 v).run Tryd.prog w = .ok (.string ⟨D.toArray⟩) w := by
  have hc : ∀ {g : Nat}, v.ownBlock = some g → ∀ j u, (bCells D)[j]? = some u → w.cell? ((⟨g, 0, none⟩ : Addr).add j) = some u := fun hg => h.cells hg
  obtain ⟨h0, h1⟩ := h
  rcases h1 with ⟨rfl, h2⟩ | ⟨g, cap, cur, rfl, _⟩
  · have hD : D = [] := List.eq_nil_of_length_eq_zero h2
    subst hD
    clear hc h0 h2
    show (convert 62 9 (.slice none 0 0)).run Tryd.prog w = .ok (.string ⟨#[]⟩) w
    rw [run_convert_bytes_string w 62 9 5 none 0 0 Tryd.underlying62 Tryd.underlying5 Tryd.underlying9]
    rfl
  · refine run_convert_bytes_back w 62 9 5 ⟨g, 0, none⟩ cap D Tryd.underlying62 Tryd.underlying5 Tryd.underlying9 ?_
    intro j hj
    refine hc (g := g) rfl j _ ?_
    simp [bCells, Lib.strCells, hj]

theorem info_u8 : (Tryd.prog.info? 5).map (fun i => (i.zero, i.size, i.bytes)) = some (some (.int .u8 0), 1, 1) := by kernel_rfl
theorem append_blank {w : World} {ops : Array Oper} {rest : List Oper} {o : Oper} {a : Act} {Q : Exit → Act → World → Prop} (hgd : o.guard = none) (s x : Operand)
    (ho : o.op = .call { callee := .builtin .append, args := #[s, x], argTypes := #[62, 62] }) (base : Nat) (v : Value) (D : List UInt8) (b cap : Nat)
    (hs : a.eval s = v) (hx : a.eval x = .slice (some ⟨b, 0, none⟩) 1 cap) (hown : w.ownsRow base 5 1 v D.length (bCells D)) (hu : w.heap[b]? = some (.cells #[.int .u8 32] 5 (0, 0))) (hlen : D.length ≤ 4194304) (hbase : base ≤ w.heap.size)
    (h : ∀ v' w', w'.ownsRow base 5 1 v' (D ++ [32]).length (bCells (D ++ [32])) → w.grownBy w' v.ownBlock → wpList Tryd.prog ops Q rest (a.put o.dst v') w') : wpList Tryd.prog ops Q (o :: rest) a w := by
  obtain ⟨i0, hi, hz0, hz1, hz2⟩ := info_parts info_u8
  refine wpList_append_own w hgd s x 62 ho base 5 i0 _ 1 1 Tryd.underlying62 hi hz0 hz1 hz2 rfl (by decide) v _ _ hs hown ⟨b, 0, none⟩ 1 cap [.int .u8 32] hx rfl ?_ ?_
      (by unfold maxLen; omega) (by omega) hbase ?_
  · intro j u hj
    match j, hj with
    | 0, hj => obtain rfl := Option.some.inj hj; rw [Addr.add_lit, Nat.zero_add, cell_of_row _ b 0 _ _ (0, 0) hu]; rfl
    | j + 1, hj => simp at hj
  · intro u hu
    simp at hu
    rcases hu with rfl; rfl
  · intro v' w' h2 h3 _
    refine h v' w' ?_ h3
    rw [bCells_app, List.length_append]
    exact h2
theorem append_one {w : World} {ops : Array Oper} {rest : List Oper} {o : Oper} {a : Act} {Q : Exit → Act → World → Prop} (hgd : o.guard = none) (s x : Operand)
    (ho : o.op = .call { callee := .builtin .append, args := #[s, x], argTypes := #[62, 9] }) (base : Nat) (v : Value) (D E : List UInt8) (S : ByteArray) (hS : S = ⟨E.toArray⟩)
    (hs : a.eval s = v) (hx : a.eval x = .string S) (hown : w.ownsRow base 5 1 v D.length (bCells D)) (hlen : D.length + E.length ≤ 8388608) (hbase : base ≤ w.heap.size)
    (h : ∀ v' w', w'.ownsRow base 5 1 v' (D ++ E).length (bCells (D ++ E)) → w.grownBy w' v.ownBlock → wpList Tryd.prog ops Q rest (a.put o.dst v') w') : wpList Tryd.prog ops Q (o :: rest) a w := by
  obtain ⟨i0, hi, hz0, hz1, hz2⟩ := info_parts info_u8
  subst hS
  have hz : (⟨E.toArray⟩ : ByteArray).size = E.length := size_list E
  refine Lib.wpList_append_own_string w hgd s x 62 9 ho base 5 i0 Tryd.underlying62 Tryd.underlying9 hi hz0 hz1 hz2 v _ _ hs hown ⟨E.toArray⟩ hx (by unfold maxLen; omega) (by omega) hbase ?_
  intro v' w' h2 h3 _
  refine h v' w' ?_ h3
  rw [bCells_app, List.length_append]
  rw [hz] at h2
  exact h2
/-- the answer of Join -/
def JoinO (w w' : World) (L : List Tk) (e : Ending) : Prop :=
  Below w.heap.size w w' ∧ (((∀ x ∈ L, Good x) ∧ (catL none L).length ≤ 1048576 ∧ e = .returned (.tuple #[.string ⟨(catL none L).toArray⟩, .int .i64 0])) ∨
    ((∀ x ∈ L, Good x) ∧ 1048576 < (catL none L).length ∧ e = .returned (.tuple #[.string ⟨#[]⟩, .int .i64 2])) ∨ (¬ (∀ x ∈ L, Good x) ∧ e = .returned (.tuple #[.string ⟨#[]⟩, .int .i64 73])))
def JnR (w wr : World) (L : List Tk) (tv i : Value) : Prop := ∃ (k : Nat) (D : List UInt8), k ≤ L.length ∧ i = .int .i64 (k : Int) ∧ wr.ownsRow w.heap.size 5 1 tv D.length (bCells D) ∧ Below w.heap.size w wr ∧ D.length ≤ 4194304 ∧
  (∀ (j : Nat) (x : Tk), j < k → L[j]? = some x → Good x) ∧ (D = catL none (L.take k) ∨ (1048576 < D.length ∧ 1048576 < (catL none (L.take k)).length))
theorem good_all {L : List Tk} (h : ∀ (j : Nat) (x : Tk), j < L.length → L[j]? = some x → Good x) : ∀ x ∈ L, Good x := fun x hx => by
  obtain ⟨j, hj, e⟩ := List.mem_iff_getElem.1 hx
  exact h j x hj (by rw [List.getElem?_eq_getElem hj, e])
theorem good_wr {x : Tk} (h : Good x) : (wrT x).length ≤ 1048576 := by
  obtain ⟨_, _, _, h1, _⟩ := h
  rw [wrT_len]; exact h1
set_option maxHeartbeats 4000000 in
set_option maxRecDepth 100000 in
theorem join_any (L : List Tk) (v : Value) (w : World) (hL : LexW w) (hv : TkL w v L) (hlen : L.length ≤ 1048576) (ht : ∀ x ∈ L, x.t.size ≤ 1048576) : Calls Tryd.prog 21 #[v] w fun e w' => JoinO w w' L e := by
  have HTL := Lib.hid hv
  obtain ⟨ao, cap, rfl, hc⟩ := hv
  have HLW := Lib.hid hL
  have HT := Lib.hid ht
  clear hc hL ht
  go_enter Tryd.func21, Tryd.ntmps21
  go_wp2
  go_loopw [4, 11] (fun tv i wr => JnR w wr L tv i) (fun _ i _ => L.length - (intOf i).toNat)
  case atStart => exact ⟨0, [], Nat.zero_le _, rfl, World.ownsRow_nil _ _ _ _, Below.refl _ _, by simp, fun j x hj => by omega, .inl rfl⟩
  case round =>
    obtain ⟨k, D, hk, rfl, hown, hbel, hDl, hgd, hD⟩ := hrel
    have HOWN := Lib.hid hown; have HBEL := Lib.hid hbel; have HGD := Lib.hid hgd; have HD := Lib.hid hD
    obtain ⟨at_, ct, rfl, htn⟩ := own_shape hown
    clear hown hbel hgd hD htn
    by_cases hlt : k < L.length
    · have hx : L[k]? = some L[k] := List.getElem?_eq_getElem hlt
      have hxm : L[k] ∈ L := List.getElem_mem hlt
      have HTK := Lib.hid (HTL.out.below HBEL.out)
      have hne : L ≠ [] := fun e => by rw [e] at hlt; simp at hlt
      obtain ⟨ao', cap', he, hc⟩ := HTK.out
      obtain ⟨b, off, hb, hblt, hcc⟩ := hc hne
      injection he with he1 he2 he3
      rw [hb] at he1
      subst he1
      obtain ⟨a0, a1, a2, a3, a4⟩ := TkL.at hcc hx
      have HX := Lib.hid hx
      have hxt := HT.out _ hxm
      generalize L[k] = x at *
      have HCN := Lib.hid (cat_next HX.out)
      have HLA : Hid (∀ o, LexW (wr.alloc o)) := Lib.hid (fun o => HLW.out.below (HBEL.out.alloc HBEL.out.size o))
      have WRT : Hid (∀ o, Calls Tryd.prog 15 #[.agg #[.int .i64 x.k, .string x.t, .bool x.q, .int .i64 x.l, .int .i64 x.c]] (wr.alloc o) fun e w' => WriteO (wr.alloc o) w' x e) := Lib.hid (fun o => write_any x hxt _ (HLA.out o))
      have HBA : Hid (∀ o w1, Below (wr.alloc o).heap.size (wr.alloc o) w1 → Below w.heap.size w w1 ∧ w1.ownsRow w.heap.size 5 1 (.slice at_ D.length ct) D.length (bCells D) ∧ Below wr.heap.size wr w1 ∧ w1.heap[wr.heap.size]? = (wr.alloc o).heap[wr.heap.size]?) := Lib.hid (fun o w1 h =>
        ⟨(HBEL.out.alloc HBEL.out.size o).trans (h.mono (Nat.le_trans HBEL.out.size (by simp))), own_below (HOWN.out.alloc o) h, ((Below.refl _ _).alloc (Nat.le_refl _) o).trans (h.mono (by simp)), h.block _ (by simp)⟩)
      clear hx hxm hc hcc he2 he3 hxt
      go_wp2_with fail
      refine (WRT.out _).mono ?_
      rintro e w1 ⟨hb1, (⟨hg, rfl⟩ | ⟨hg, rfl⟩)⟩
      · have HG := Lib.hid hg
        have HW1 := Lib.hid (HBA.out _ _ hb1)
        have HGS : Hid (∀ (j : Nat) (y : Tk), j < k + 1 → L[j]? = some y → Good y) := Lib.hid (fun j y hj hy => by
          by_cases e : j = k
          · subst e; have := HX.out.symm.trans hy; obtain rfl := Option.some.inj this; exact hg
          · exact HGD.out j y (by omega) hy)
        have hwr := good_wr hg
        have hbk1 := HW1.out.2.2.2.trans (heap_alloc_new wr (Obj.cells #[.int .i64 x.k, .string x.t, .bool x.q, .int .i64 x.l, .int .i64 x.c] 33))
        obtain ⟨t0, t1, t2, t3, t4⟩ := blk5 hbk1
        obtain ⟨l0, l1, l2, l3, l4⟩ := (show w1.cell? ⟨b, off + k * 5, none⟩ = _ ∧ w1.cell? ⟨b, off + k * 5 + 1, none⟩ = _ ∧ w1.cell? ⟨b, off + k * 5 + 2, none⟩ = _ ∧ w1.cell? ⟨b, off + k * 5 + 3, none⟩ = _ ∧ w1.cell? ⟨b, off + k * 5 + 4, none⟩ = _ from ⟨(HW1.out.2.2.1.cell (p := ⟨b, off + k * 5, none⟩) hblt).trans a0, (HW1.out.2.2.1.cell (p := ⟨b, off + k * 5 + 1, none⟩) hblt).trans a1, (HW1.out.2.2.1.cell (p := ⟨b, off + k * 5 + 2, none⟩) hblt).trans a2, (HW1.out.2.2.1.cell (p := ⟨b, off + k * 5 + 3, none⟩) hblt).trans a3, (HW1.out.2.2.1.cell (p := ⟨b, off + k * 5 + 4, none⟩) hblt).trans a4⟩)
        clear hb1 hg hbk1
        by_cases hmax : 1048576 < D.length
        · have HD2 : Hid (1048576 < (catL none (L.take (k + 1))).length) := Lib.hid (by
            have hm := cat_mono (L := L) 1 k
            rcases HD.out with h | h
            · rw [← h] at hm; omega
            · have := h.2; omega)
          go_wp2
          go_roundw
          case rel => exact ⟨k + 1, D, by omega, by go_num, HW1.out.2.1, HW1.out.1, hDl, HGS.out, .inr ⟨hmax, HD2.out⟩⟩
          case measure => simp [intOf]; omega
        · have HDE : Hid (D = catL none (L.take k)) := Lib.hid (HD.out.resolve_right (fun h => hmax h.1))
          by_cases hk0 : k = 0
          · have HSEP : Hid (sepL (lastK none (L.take k)) x.k = []) := Lib.hid (by rw [hk0]; rfl)
            subst hk0
            have HNW : Hid (catL none (L.take (0 + 1)) = D ++ wrT x) := Lib.hid (by rw [HCN.out, ← HDE.out, HSEP.out, List.nil_append])
            have HLTO := Lib.hid HW1.out.2.1.lt
            have hmx : D.length ≤ 1048576 := Nat.le_of_not_lt hmax
            clear hmax
            go_wp2_with (at_builtin; refine append_one rfl (.tmp 49) (.tmp 50) rfl w.heap.size _ D (wrT x) (wrB x) rfl rfl rfl HW1.out.2.1 (by omega) HW1.out.1.size ?_; intro v3 w3 hown3 hgr3; have HO3 := Lib.hid hown3; have HG3 := Lib.hid hgr3; clear hown3 hgr3)
            go_roundw
            case rel => exact ⟨0 + 1, D ++ wrT x, by omega, by go_num, HO3.out, HW1.out.1.grown HG3.out HW1.out.1.size (fun kx hkx => (HLTO.out kx hkx).1), by rw [List.length_append]; omega, HGS.out, .inl HNW.out.symm⟩
            case measure => simp [intOf]; omega
          · obtain ⟨j, hj⟩ : ∃ j, k = j + 1 := ⟨k - 1, by omega⟩
            have hjl : j < L.length := by omega
            have hy : L[j]? = some L[j] := List.getElem?_eq_getElem hjl
            have HLAST : Hid (lastK none (L.take k) = some (L[j]).k) := Lib.hid (by rw [hj]; exact last_next hy)
            obtain ⟨ao2, cap2, he2, hc2⟩ := HTL.out
            obtain ⟨b2, off2, hb2, hblt2, hcc2⟩ := hc2 hne
            injection he2 with he4 he5 he6
            rw [hb2] at he4
            have he7 := Option.some.inj he4
            injection he7 with he8 he9
            subst he8 he9
            obtain ⟨y0, _⟩ := TkL.at hcc2 hy
            have y0' := (HW1.out.1.cell (p := ⟨b, off + j * 5, none⟩) hblt2).trans y0
            generalize L[j] = y at *
            subst hj
            clear hcc2 hc2 he4 hb2 he5 he6 y0 hy
            by_cases hy1 : y.k = 1
            · have HSEP : Hid (sepL (lastK none (L.take (j + 1))) x.k = []) := Lib.hid (by rw [HLAST.out]; unfold sepL; rw [hy1]; simp)
              rw [hy1] at y0'
              have HNW : Hid (catL none (L.take (j + 1 + 1)) = D ++ wrT x) := Lib.hid (by rw [HCN.out, ← HDE.out, HSEP.out, List.nil_append])
              have HLTO := Lib.hid HW1.out.2.1.lt
              have hmx : D.length ≤ 1048576 := Nat.le_of_not_lt hmax
              clear hmax
              go_wp2_with (at_builtin; refine append_one rfl (.tmp 49) (.tmp 50) rfl w.heap.size _ D (wrT x) (wrB x) rfl rfl rfl HW1.out.2.1 (by omega) HW1.out.1.size ?_; intro v3 w3 hown3 hgr3; have HO3 := Lib.hid hown3; have HG3 := Lib.hid hgr3; clear hown3 hgr3)
              go_roundw
              case rel => exact ⟨j + 1 + 1, D ++ wrT x, by omega, by go_num, HO3.out, HW1.out.1.grown HG3.out HW1.out.1.size (fun kx hkx => (HLTO.out kx hkx).1), by rw [List.length_append]; omega, HGS.out, .inl HNW.out.symm⟩
              case measure => simp [intOf]; omega
            · have ey1 : (y.k != 1) = true := bne_iff_ne.2 hy1
              by_cases hx2 : x.k = 2
              · have HSEP : Hid (sepL (lastK none (L.take (j + 1))) x.k = []) := Lib.hid (by rw [HLAST.out]; unfold sepL; rw [hx2]; simp)
                rw [hx2] at t0
                clear hy1
                have HNW : Hid (catL none (L.take (j + 1 + 1)) = D ++ wrT x) := Lib.hid (by rw [HCN.out, ← HDE.out, HSEP.out, List.nil_append])
                have HLTO := Lib.hid HW1.out.2.1.lt
                have hmx : D.length ≤ 1048576 := Nat.le_of_not_lt hmax
                clear hmax
                go_wp2_with (at_builtin; refine append_one rfl (.tmp 49) (.tmp 50) rfl w.heap.size _ D (wrT x) (wrB x) rfl rfl rfl HW1.out.2.1 (by omega) HW1.out.1.size ?_; intro v3 w3 hown3 hgr3; have HO3 := Lib.hid hown3; have HG3 := Lib.hid hgr3; clear hown3 hgr3)
                go_roundw
                case rel => exact ⟨j + 1 + 1, D ++ wrT x, by omega, by go_num, HO3.out, HW1.out.1.grown HG3.out HW1.out.1.size (fun kx hkx => (HLTO.out kx hkx).1), by rw [List.length_append]; omega, HGS.out, .inl HNW.out.symm⟩
                case measure => simp [intOf]; omega
              · have ex2 : (x.k != 2) = true := bne_iff_ne.2 hx2
                have HSEP : Hid (sepL (lastK none (L.take (j + 1))) x.k = [32]) := Lib.hid (by rw [HLAST.out]; unfold sepL; exact if_pos ⟨hy1, hx2⟩)
                clear hy1 hx2
                have HNW : Hid (catL none (L.take (j + 1 + 1)) = D ++ [32] ++ wrT x) := Lib.hid (by rw [HCN.out, ← HDE.out, HSEP.out, List.append_assoc])
                have HLTO := Lib.hid (HW1.out.2.1.alloc (Obj.cells #[.int .u8 32] 5)).lt
                have HOB := Lib.hid (HW1.out.2.1.alloc (Obj.cells #[.int .u8 32] 5))
                have HUB := Lib.hid (heap_alloc_new w1 (Obj.cells #[.int .u8 32] 5))
                have HBB : Hid (Below w.heap.size w (w1.alloc (Obj.cells #[.int .u8 32] 5))) := Lib.hid (HW1.out.1.alloc HW1.out.1.size _)
                have hl1 : (D ++ [(32 : UInt8)]).length = D.length + 1 := by simp
                have hmx : D.length ≤ 1048576 := Nat.le_of_not_lt hmax
                clear hmax
                go_wp2_with (first | (at_builtin; refine append_blank rfl (.tmp 46) (.tmp 47) rfl w.heap.size _ D w1.heap.size 1 rfl rfl HOB.out HUB.out (by omega) HBB.out.size ?_; intro v2 w2 hown2 hgr2; have HO2 := Lib.hid hown2; have HG2 := Lib.hid (HBB.out.grown hgr2 HBB.out.size (fun kx hkx => (HLTO.out kx hkx).1)); clear hown2 hgr2) | (at_builtin; refine append_one rfl (.tmp 49) (.tmp 50) rfl w.heap.size _ (D ++ [32]) (wrT x) (wrB x) rfl rfl rfl HO2.out (by rw [hl1]; omega) HG2.out.size ?_; intro v3 w3 hown3 hgr3; have HO3 := Lib.hid hown3; have HG3 := Lib.hid hgr3; clear hown3 hgr3))
                go_roundw
                case rel => exact ⟨j + 1 + 1, D ++ [32] ++ wrT x, by omega, by go_num, HO3.out, HG2.out.grown HG3.out HG2.out.size (fun kx hkx => (HO2.out.lt kx hkx).1), by rw [List.length_append, hl1]; omega, HGS.out, .inl HNW.out.symm⟩
                case measure => simp [intOf]; omega
      · have HN : Hid (¬ ∀ y ∈ L, Good y) := Lib.hid (fun h => hg (h x (List.mem_of_getElem? HX.out)))
        have HW1 := Lib.hid (HBA.out _ _ hb1)
        clear hb1 hg
        go_wp2
        go_ret2
        exact ⟨HW1.out.1, .inr (.inr ⟨HN.out, rfl⟩)⟩
    · obtain rfl : k = L.length := by omega
      have HGA := Lib.hid (good_all HGD.out)
      have HTA : Hid (L.take L.length = L) := Lib.hid (List.take_length ..)
      by_cases hmax : 1048576 < D.length
      · have HD2 : Hid (1048576 < (catL none L).length) := Lib.hid (by
          rcases HD.out with h | h
          · rw [HTA.out] at h; rw [← h]; exact hmax
          · rw [HTA.out] at h; exact h.2)
        go_wp2
        go_ret2
        exact ⟨HBEL.out, .inr (.inl ⟨HGA.out, HD2.out, rfl⟩)⟩
      · have HD2 : Hid (D = catL none L) := Lib.hid (by
          rcases HD.out with h | h
          · rw [HTA.out] at h; exact h
          · exact absurd h.1 hmax)
        have hcv := conv_own HOWN.out
        go_wp2
        go_ret2
        exact ⟨HBEL.out, .inl ⟨HGA.out, by rw [← HD2.out]; omega, by rw [← HD2.out]; rfl⟩⟩
end Go.Proofs.YtlgcmpiobglbbaaDoor
