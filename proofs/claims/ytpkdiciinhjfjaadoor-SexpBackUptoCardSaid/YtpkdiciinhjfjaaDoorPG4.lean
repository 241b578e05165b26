/- PXV PXW PYA PYB. -/
import Derived.Test.YtpkdiciinhjfjaaDoorPG3
import Derived.Test.YtpkdiciinhjfjaaDoorKG1
import Derived.Deep.Upon
import Derived.Lib.SlFresh
import Derived.StillTailTactics
set_option linter.unusedVariables false
set_option linter.unusedSimpArgs false
/- sexp: the text of a node: mathematics. -/
namespace Go.Proofs.YtpkdiciinhjfjaaDoor
open Go.RowKit Mth

def tailB (l : List (List UInt8)) : List UInt8 := l.flatMap fun y => 32 :: y
/-- texts with a blank between any two -/
def joinB : List (List UInt8) → List UInt8
  | [] => []
  | x :: r => x ++ tailB r
theorem joinB_snoc : ∀ (l : List (List UInt8)) (x : List UInt8), joinB (l ++ [x]) = if l = [] then x else joinB l ++ 32 :: x
  | [], x => by simp [joinB, tailB]
  | y :: l, x => by
    rw [if_neg (by simp)]
    show y ++ tailB (l ++ [x]) = (y ++ tailB l) ++ 32 :: x
    simp [tailB]
/-- the bytes of a node -/
def wrF (T : List Nd) (n : Nat) : List UInt8 := match T[n]? with
  | none => []
  | some nd => if nd.kind = 1 then wrT nd.tok else 40 :: (joinB (nd.kids.map fun x => if _h : x.toNat < n then wrF T x.toNat else []) ++ [41])
termination_by n
theorem map_eq {l : List Int} {f g : Int → List UInt8} (h : ∀ x ∈ l, f x = g x) : l.map f = l.map g := List.map_congr_left h
theorem wrF_atom {T : List Nd} {n : Nat} (hn : n < T.length) (h : T[n].kind = 1) : wrF T n = wrT T[n].tok := by
  rw [wrF, List.getElem?_eq_getElem hn]
  exact if_pos h
theorem wrF_list {T : List Nd} {n : Nat} (hn : n < T.length) (h : T[n].kind = 2) (hk : ∀ x ∈ T[n].kids, 0 ≤ x ∧ x < (n : Int)) : wrF T n = 40 :: (joinB (T[n].kids.map fun x => wrF T x.toNat) ++ [41]) := by
  rw [wrF, List.getElem?_eq_getElem hn]
  show (if T[n].kind = 1 then _ else _) = _
  rw [if_neg (by omega), map_eq (g := fun x => wrF T x.toNat) fun x hx => ?_]
  have := hk x hx
  exact dif_pos (by omega)
theorem sep_open {pk : Option Int} {k : Int} (h : k ≠ 2) : sepL pk k = sepL pk 0 := by
  unfold sepL
  split
  · rfl
  · simp [h]
theorem sep_some {p q k : Int} (hp : p ≠ 1) (hq : q ≠ 1) : sepL (some p) k = sepL (some q) k := by unfold sepL; simp [hp, hq]
theorem cat_some {p q : Int} (hp : p ≠ 1) (hq : q ≠ 1) : ∀ L, catL (some p) L = catL (some q) L
  | [] => rfl
  | x :: L => by rw [catL, catL, sep_some hp hq]
theorem wrT_open : wrT tkOpen = [40] := rfl
theorem wrT_close : wrT tkClose = [41] := rfl
theorem flat_cons (T : List Nd) (x : Int) (r : List Int) : ((x :: r).flatMap fun x => toksF T x.toNat) = toksF T x.toNat ++ r.flatMap fun x => toksF T x.toNat := List.flatMap_cons
/-- kids' tokens behind others -/
theorem cat_tail {T : List Nd} : ∀ (ks : List Int), (∀ x ∈ ks, ∀ pk rest, catL pk (toksF T x.toNat ++ rest) = sepL pk 0 ++ wrF T x.toNat ++ catL (some 0) rest) → ∀ rest, catL (some 0) ((ks.flatMap fun x => toksF T x.toNat) ++ rest) = tailB (ks.map fun x => wrF T x.toNat) ++ catL (some 0) rest
  | [], _, rest => by simp [tailB]
  | x :: r, h, rest => by
    rw [flat_cons, List.append_assoc, h x (List.mem_cons_self ..), cat_tail r (fun y hy => h y (List.mem_cons_of_mem _ hy))]
    show [32] ++ wrF T x.toNat ++ (tailB (r.map fun x => wrF T x.toNat) ++ catL (some 0) rest) = (32 :: wrF T x.toNat ++ tailB (r.map fun x => wrF T x.toNat)) ++ catL (some 0) rest
    simp
theorem cat_node {T : List Nd} {n : Nat} (hs : Sound T n) : ∀ pk rest, catL pk (toksF T n ++ rest) = sepL pk 0 ++ wrF T n ++ catL (some 0) rest := by
  induction hs with
  | mk n hn hsn _ ih =>
    intro pk rest
    rcases hsn with ⟨k1, -, h1, h2⟩ | ⟨k2, hlt⟩
    · rw [toks_atom hn k1, wrF_atom hn k1]
      show catL pk (T[n].tok :: rest) = _
      rw [catL, sep_open h2, cat_some (p := T[n].tok.k) (q := 0) h1 (by omega) rest]
    · rw [toks_list hn k2 hlt, wrF_list hn k2 hlt]
      show catL pk (tkOpen :: (((T[n].kids.flatMap fun x => toksF T x.toNat) ++ [tkClose]) ++ rest)) = _
      rw [catL, wrT_open]
      have e1 : sepL pk tkOpen.k = sepL pk 0 := sep_open (by show (1 : Int) ≠ 2; omega)
      have e2 : ∀ q, catL (some q) (tkClose :: rest) = 41 :: catL (some 0) rest := fun q => by
        rw [catL, wrT_close, cat_some (p := tkClose.k) (q := 0) (by show (2 : Int) ≠ 1; omega) (by omega)]
        have : sepL (some q) tkClose.k = [] := by unfold sepL; simp [tkClose]
        rw [this]; rfl
      have e3 : catL (some tkOpen.k) (((T[n].kids.flatMap fun x => toksF T x.toNat) ++ [tkClose]) ++ rest) = joinB (T[n].kids.map fun x => wrF T x.toNat) ++ 41 :: catL (some 0) rest := by
        have ih := ih k2
        revert ih
        generalize T[n].kids = ks
        intro ih
        cases ks with
        | nil => exact e2 _
        | cons x r =>
          rw [flat_cons, List.append_assoc, List.append_assoc, ih x (List.mem_cons_self ..), cat_tail r (fun y hy => ih y (List.mem_cons_of_mem _ hy))]
          have : sepL (some tkOpen.k) 0 = [] := by unfold sepL; simp [tkOpen]
          rw [this]
          show [] ++ wrF T x.toNat ++ (tailB (r.map fun x => wrF T x.toNat) ++ catL (some 0) (tkClose :: rest)) = (wrF T x.toNat ++ tailB (r.map fun x => wrF T x.toNat)) ++ _
          rw [e2]
          simp
      rw [e1, e3]
      simp
theorem cat_text {T : List Nd} {n : Nat} (hs : Sound T n) : catL none (toksF T n) = wrF T n := by
  have h := cat_node hs none []
  rw [List.append_nil] at h
  rw [h]
  simp [sepL, catL]
theorem one_ch (c : UInt8) : (⟨#[c]⟩ : ByteArray).size = 1 := rfl
theorem good_open : Good tkOpen := by
  refine ⟨1, rfl, by decide, by decide, ?_⟩
  have e : wrB tkOpen = ⟨#[40]⟩ := rfl
  rw [e]
  unfold oneF
  rw [if_pos (by rfl)]
  rfl
theorem good_close : Good tkClose := by
  refine ⟨2, rfl, by decide, by decide, ?_⟩
  have e : wrB tkClose = ⟨#[41]⟩ := rfl
  rw [e]
  unfold oneF
  rw [if_neg (by decide), if_pos (by rfl)]
  rfl
/-- each token of a sound node may be written; its text is short -/
theorem toks_good {T : List Nd} (ht : ∀ nd ∈ T, nd.tok.t.size ≤ 1048576) {n : Nat} (hs : Sound T n) : ∀ x ∈ toksF T n, Good x ∧ x.t.size ≤ 1048576 := by
  induction hs with
  | mk n hn hsn _ ih =>
    intro x hx
    rcases hsn with ⟨k1, hg, -⟩ | ⟨k2, hlt⟩
    · rw [toks_atom hn k1] at hx
      obtain rfl := List.mem_singleton.1 hx
      exact ⟨hg, ht _ (List.getElem_mem hn)⟩
    · rw [toks_list hn k2 hlt] at hx
      rcases List.mem_cons.1 hx with rfl | hx
      · exact ⟨good_open, by decide⟩
      · rcases List.mem_append.1 hx with hx | hx
        · obtain ⟨y, hy, hxy⟩ := List.mem_flatMap.1 hx
          exact ih k2 y hy x hxy
        · obtain rfl := List.mem_singleton.1 hx
          exact ⟨good_close, by decide⟩
theorem cat_many : ∀ (L : List Tk) (pk : Option Int), (∀ x ∈ L, Good x) → L.length ≤ (catL pk L).length
  | [], _, _ => Nat.zero_le _
  | x :: L, pk, h => by
    have h1 := cat_many L (some x.k) (fun y hy => h y (List.mem_cons_of_mem _ hy))
    obtain ⟨_, _, h0, _⟩ := h x (List.mem_cons_self ..)
    rw [catL, List.length_append, List.length_append, wrT_len, List.length_cons]
    omega
theorem tailB_len : ∀ l : List (List UInt8), (tailB l).length = l.length + (l.map List.length).sum
  | [] => rfl
  | x :: l => by
    show ((32 :: x) ++ tailB l).length = _
    rw [List.length_append, tailB_len l]; simp; omega
theorem joinB_len : ∀ l : List (List UInt8), (joinB l).length = (l.length - 1) + (l.map List.length).sum
  | [] => rfl
  | x :: l => by
    show (x ++ tailB l).length = _
    rw [List.length_append, tailB_len l]; simp; omega
/-- the number that sizes tells is the text's length, as far as it may be long -/
def SzOf (v : Int) (n : Nat) : Prop := 0 ≤ v ∧ (n ≤ 1048576 → v = n) ∧ (1048576 < n → 1048576 < v)
theorem szof_fold {f : Int → Int} {g : Int → Nat} : ∀ (ks : List Int), (∀ x ∈ ks, SzOf (f x) (g x)) → ∀ (a : Int) (n : Nat), SzOf a n → SzOf (ks.foldl (fun a x => moreS a (f x)) a) (n + (ks.map g).sum)
  | [], _, a, n, h => by simpa using h
  | x :: r, hk, a, n, h => by
    have hx := hk x (List.mem_cons_self ..)
    have := szof_fold r (fun y hy => hk y (List.mem_cons_of_mem _ hy)) (moreS a (f x)) (n + g x) (by
      unfold SzOf moreS at *
      refine ⟨by omega, fun h => by omega, fun h => by omega⟩)
    rw [List.foldl_cons]
    rw [show n + ((x :: r).map g).sum = n + g x + (r.map g).sum by simp; omega]
    exact this
theorem size_node {T : List Nd} {n : Nat} (hs : Sound T n) : SzOf (numF baseS moreS T n) (wrF T n).length := by
  induction hs with
  | mk n hn hsn hk ih =>
    rw [num_at hn hsn, kidsF_at hn]
    rcases hsn with ⟨k1, hg, -⟩ | ⟨k2, hlt⟩
    · rw [if_neg (by omega), wrF_atom hn k1, wrT_len]
      show SzOf (baseS T[n]) _
      unfold baseS SzOf
      rw [if_pos k1]
      exact ⟨by omega, fun _ => rfl, fun h => by omega⟩
    · rw [if_pos k2, wrF_list hn k2 hlt]
      have hb : SzOf (baseS T[n]) (2 + (T[n].kids.length - 1)) := by
        unfold baseS SzOf szList
        rw [if_neg (by omega)]
        refine ⟨by omega, fun _ => by omega, fun h => by omega⟩
      have h := szof_fold (f := fun x => numF baseS moreS T x.toNat) (g := fun x => (wrF T x.toNat).length) T[n].kids (fun x hx => ih k2 x hx) _ _ hb
      have e : (40 :: (joinB (T[n].kids.map fun x => wrF T x.toNat) ++ [41])).length = 2 + (T[n].kids.length - 1) + (T[n].kids.map fun x => (wrF T x.toNat).length).sum := by
        rw [List.length_cons, List.length_append, joinB_len, List.length_map, List.map_map]
        show (T[n].kids.length - 1) + (T[n].kids.map fun x => (wrF T x.toNat).length).sum + 1 + 1 = _
        omega
      rw [e]
      exact h
end Go.Proofs.YtpkdiciinhjfjaaDoor

/- sexp: Text; Kids. -/
namespace Go.Proofs.YtpkdiciinhjfjaaDoor
open Go.RowKit Mth

/-- Text: what it answers of node k -/
def TextK (T : List Nd) (k : Nat) (e : Ending) : Prop := (¬ Sound T k ∧ e = .returned (.tuple #[.string ⟨#[]⟩, .int .i64 73])) ∨ (Sound T k ∧ 1048576 < (wrF T k).length ∧ e = .returned (.tuple #[.string ⟨#[]⟩, .int .i64 2])) ∨
  (Sound T k ∧ (wrF T k).length ≤ 1048576 ∧ e = .returned (.tuple #[.string ⟨(wrF T k).toArray⟩, .int .i64 0]))
def TextO (T : List Nd) (r : Int) (e : Ending) : Prop := (¬ (0 ≤ r ∧ r < T.length) ∧ e = .returned (.tuple #[.string ⟨#[]⟩, .int .i64 1])) ∨ (∃ k : Nat, r = k ∧ k < T.length ∧ TextK T k e)
set_option maxHeartbeats 2000000 in
set_option maxRecDepth 100000 in
theorem text_err (tv : Value) (r y : Int) (w : World) (ao : Option Addr) (n cap : Nat) (hv : tv = .slice ao n cap) (hy : (y != 0) = true) (FC : ∀ W, Below w.heap.size w W → Calls Tryd.prog 13 #[tv, .int .i64 r, ruleS] W fun e w' => e = .returned (.tuple #[.int .i64 0, .int .i64 y]) ∧ Below W.heap.size W w') :
    Calls Tryd.prog 7 #[tv, .int .i64 r] w fun e w' => e = .returned (.tuple #[.string ⟨#[]⟩, .int .i64 y]) ∧ Below w.heap.size w w' := by
  subst hv
  have FF := Lib.hid FC
  have SC := Lib.hid (sizes_any w)
  clear FC
  go_enter Tryd.func7, Tryd.ntmps7
  go_wp2_with fail
  refine SC.out.mono ?_
  rintro e w1 ⟨rfl, hb1⟩
  have HB1 := Lib.hid hb1
  clear hb1
  unfold ruleS at FF ⊢
  go_wp2_with fail
  refine (FF.out _ HB1.out).mono ?_
  rintro e w2 ⟨rfl, hb2⟩
  have HB2 := Lib.hid (belowT HB1.out hb2)
  clear hb2
  go_wp2
  go_ret2
  exact ⟨rfl, HB2.out⟩
set_option maxHeartbeats 2000000 in
set_option maxRecDepth 100000 in
theorem text_long (tv : Value) (r x : Int) (w : World) (ao : Option Addr) (n cap : Nat) (hv : tv = .slice ao n cap) (hx : 1048576 < x) (FC : ∀ W, Below w.heap.size w W → Calls Tryd.prog 13 #[tv, .int .i64 r, ruleS] W fun e w' => e = .returned (.tuple #[.int .i64 x, .int .i64 0]) ∧ Below W.heap.size W w') :
    Calls Tryd.prog 7 #[tv, .int .i64 r] w fun e w' => e = .returned (.tuple #[.string ⟨#[]⟩, .int .i64 2]) ∧ Below w.heap.size w w' := by
  subst hv
  have FF := Lib.hid FC
  have SC := Lib.hid (sizes_any w)
  clear FC
  go_enter Tryd.func7, Tryd.ntmps7
  go_wp2_with fail
  refine SC.out.mono ?_
  rintro e w1 ⟨rfl, hb1⟩
  have HB1 := Lib.hid hb1
  clear hb1
  unfold ruleS at FF ⊢
  go_wp2_with fail
  refine (FF.out _ HB1.out).mono ?_
  rintro e w2 ⟨rfl, hb2⟩
  have HB2 := Lib.hid (belowT HB1.out hb2)
  clear hb2
  go_wp2
  go_ret2
  exact ⟨rfl, HB2.out⟩
set_option maxHeartbeats 2000000 in
set_option maxRecDepth 100000 in
theorem text_ok {T : List Nd} (C : TabC T) (tv : Value) (k : Nat) (w : World) (ht : SxL w tv T) (hL : LexW w) (hk : k < T.length) (hs : Sound T k) (hl : (wrF T k).length ≤ 1048576) :
    Calls Tryd.prog 7 #[tv, .int .i64 (k : Int)] w fun e w' => e = .returned (.tuple #[.string ⟨(wrF T k).toArray⟩, .int .i64 0]) ∧ Below w.heap.size w w' := by
  have hsz := size_node hs
  have hx : ¬ 1048576 < numF baseS moreS T k := fun h => by have := hsz.2.1 hl; omega
  have hg := toks_good C.tok hs
  have hcat := cat_text hs
  have hmany : (toksF T k).length ≤ 1048576 := Nat.le_trans (cat_many _ none (fun x hx => (hg x hx).1)) (by rw [hcat]; exact hl)
  have FF : Hid (∀ W, Below w.heap.size w W → Calls Tryd.prog 13 #[tv, .int .i64 (k : Int), ruleS] W fun e w' => e = .returned (.tuple #[.int .i64 (numF baseS moreS T k), .int .i64 0]) ∧ Below W.heap.size W w') := Lib.hid fun W hW => by
    refine (fold_in (folS C tv) k W (ht.below hW) (hL.below hW) hk (by have := C.N; omega)).mono ?_
    rintro e w' ⟨⟨_, rfl⟩ | ⟨h, _⟩, hb⟩
    · exact ⟨rfl, hb⟩
    · exact absurd hs h
  have TK : Hid (∀ W, Below w.heap.size w W → Calls Tryd.prog 16 #[tv, .int .i64 (k : Int)] W fun e w' => ∃ v, e = .returned v ∧ TkL w' v (toksF T k) ∧ Below W.heap.size W w') := Lib.hid fun W hW => by
    refine (tokens_sound (fun nd h => by have := C.kids nd h; omega) tv k W (ht.below hW) hs (by have := C.N; omega) hmany).mono ?_
    rintro e w' ⟨v, rfl, ho, hb⟩
    exact ⟨v, rfl, TkL.own ho, hb⟩
  have JN : Hid (∀ W v, Below w.heap.size w W → TkL W v (toksF T k) → Calls Tryd.prog 15 #[v] W fun e w' => e = .returned (.tuple #[.string ⟨(wrF T k).toArray⟩, .int .i64 0]) ∧ Below W.heap.size W w') := Lib.hid fun W v hW hv => by
    refine (join_any (toksF T k) v W (hL.below hW) hv hmany (fun x hx => (hg x hx).2)).mono ?_
    rintro e w' ⟨hb, ⟨_, _, rfl⟩ | ⟨_, h, _⟩ | ⟨h, _⟩⟩
    · rw [hcat]; exact ⟨rfl, hb⟩
    · rw [hcat] at h; omega
    · exact absurd (fun x hx => (hg x hx).1) h
  have SC := Lib.hid (sizes_any w)
  obtain ⟨ao, cap, rfl⟩ := ht.shape
  clear ht hL hs hsz hg hcat hmany C
  generalize numF baseS moreS T k = x at *
  generalize (wrF T k).toArray = txt at *
  generalize toksF T k = L at *
  clear hl
  go_enter Tryd.func7, Tryd.ntmps7
  go_wp2_with fail
  refine SC.out.mono ?_
  rintro e w1 ⟨rfl, hb1⟩
  have HB1 := Lib.hid hb1
  clear hb1
  unfold ruleS at FF ⊢
  go_wp2_with fail
  refine (FF.out _ HB1.out).mono ?_
  rintro e w2 ⟨rfl, hb2⟩
  have HB2 := Lib.hid (belowT HB1.out hb2)
  clear hb2
  go_wp2_with fail
  refine (TK.out _ HB2.out).mono ?_
  rintro e w3 ⟨v, rfl, hv, hb3⟩
  have HB3 := Lib.hid (belowT HB2.out hb3)
  have HJ := Lib.hid (JN.out _ v HB3.out hv)
  obtain ⟨va, vc, rfl, -⟩ := hv
  clear hb3
  go_wp2_with fail
  refine HJ.out.mono ?_
  rintro e w4 ⟨rfl, hb4⟩
  have HB4 := Lib.hid (belowT HB3.out hb4)
  clear hb4
  go_wp2
  go_ret2
  exact ⟨rfl, HB4.out⟩
theorem text_any {T : List Nd} (C : TabC T) (tv : Value) (r : Int) (w : World) (ht : SxL w tv T) (hL : LexW w) : Calls Tryd.prog 7 #[tv, .int .i64 r] w fun e w' => TextO T r e ∧ Below w.heap.size w w' := by
  obtain ⟨ao, cap, hv⟩ := ht.shape
  by_cases hr : 0 ≤ r ∧ r < T.length
  · obtain ⟨k, rfl⟩ : ∃ k : Nat, r = k := ⟨r.toNat, by omega⟩
    have hk : k < T.length := by omega
    have FF := fun (W : World) (hW : Below w.heap.size w W) => fold_in (folS C tv) k W (ht.below hW) (hL.below hW) hk (by have := C.N; omega)
    by_cases hs : Sound T k
    · by_cases hl : (wrF T k).length ≤ 1048576
      · refine (text_ok C tv k w ht hL hk hs hl).mono ?_
        rintro e w' ⟨rfl, hb⟩
        exact ⟨.inr ⟨k, rfl, hk, .inr (.inr ⟨hs, hl, rfl⟩)⟩, hb⟩
      · refine (text_long tv k _ w ao _ cap hv ((size_node hs).2.2 (by omega)) (fun W hW => (FF W hW).mono ?_)).mono ?_
        · rintro e w' ⟨⟨_, rfl⟩ | ⟨h, _⟩, hb⟩
          · exact ⟨rfl, hb⟩
          · exact absurd hs h
        · rintro e w' ⟨rfl, hb⟩
          exact ⟨.inr ⟨k, rfl, hk, .inr (.inl ⟨hs, by omega, rfl⟩)⟩, hb⟩
    · refine (text_err tv k 73 w ao _ cap hv rfl (fun W hW => (FF W hW).mono ?_)).mono ?_
      · rintro e w' ⟨⟨h, _⟩ | ⟨_, rfl⟩, hb⟩
        · exact absurd h hs
        · exact ⟨rfl, hb⟩
      · rintro e w' ⟨rfl, hb⟩
        exact ⟨.inr ⟨k, rfl, hk, .inl ⟨hs, rfl⟩⟩, hb⟩
  · refine (text_err tv r 1 w ao _ cap hv rfl (fun W hW => (fold_out T tv 30 31 32 r W (ht.below hW) hr))).mono ?_
    rintro e w' ⟨rfl, hb⟩
    exact ⟨.inl ⟨hr, rfl⟩, hb⟩
def inCells (l : List Int) : List Value := l.map (Value.int .i64)
theorem in_len (l : List Int) : (inCells l).length = l.length := List.length_map _
theorem in_app (l m : List Int) : inCells (l ++ m) = inCells l ++ inCells m := List.map_append
theorem info_int : (Tryd.prog.info? 3).map (fun i => (i.zero, i.size, i.bytes)) = some (some (.int .i64 0), 1, 8) := by kernel_rfl
/-- append(xs, ys...) of ints to a row of the call's own -/
theorem append_inl {w : World} {ops : Array Oper} {rest : List Oper} {o : Oper} {a : Act} {Q : Exit → Act → World → Prop} (hgd : o.guard = none) (s x : Operand)
    (ho : o.op = .call { callee := .builtin .append, args := #[s, x], argTypes := #[23, 23] }) (base : Nat) (v u : Value) (xs ys : List Int)
    (hs : a.eval s = v) (hx : a.eval x = u) (hown : w.ownsRow base 3 1 v xs.length (inCells xs)) (hu : InL w u ys) (hlen : xs.length + ys.length ≤ 4194304) (hbase : base ≤ w.heap.size)
    (h : ∀ v' w', w'.ownsRow base 3 1 v' (xs ++ ys).length (inCells (xs ++ ys)) → w.grownBy w' v.ownBlock → (v'.ownBlock = v.ownBlock ∨ v'.ownBlock = some w.heap.size) → wpList Tryd.prog ops Q rest (a.put o.dst v') w') : wpList Tryd.prog ops Q (o :: rest) a w := by
  obtain ⟨i0, hi, hz0, hz1, hz2⟩ := info_parts info_int
  obtain ⟨ao, cap, rfl, hc⟩ := hu
  cases ao with
  | none =>
    have h0 : ys = [] := by
      rcases Classical.em (ys = []) with h0 | h0
      · exact h0
      · obtain ⟨b, off, e, _⟩ := hc h0
        cases e
    subst h0
    obtain ⟨so, scap, rfl⟩ := own_len hown
    refine Lib.wpList_append_run_sl w hgd s x 23 ho _ _ hs hx (run_append_nothing w 23 23 o.type 3 i0 Tryd.underlying23 hi so xs.length scap (own_cap hown) _ (Src.ofNil w Tryd.underlying23 cap)) ?_
    refine h _ _ ?_ (World.grownBy.refl _ _) (.inl rfl)
    rw [List.append_nil]; exact hown
  | some ad =>
    refine wpList_append_own_at w hgd s x 23 ho base 3 i0 _ 1 8 Tryd.underlying23 hi hz0 hz1 hz2 rfl (by decide) v _ _ hs hown ad ys.length cap (inCells ys) hx (by rw [in_len]; omega) ?_ ?_
      (by unfold maxLen; omega) (by omega) hbase ?_
    · intro j y hj
      have hjl : j < ys.length := by have := (List.getElem?_eq_some_iff.1 hj).1; rwa [in_len] at this
      obtain ⟨b, off, e, _, hcc⟩ := hc (fun e => by rw [e] at hjl; simp at hjl)
      obtain rfl := Option.some.inj e
      rw [Addr.add_lit, hcc j _ (List.getElem?_eq_getElem hjl)]
      unfold inCells at hj
      rw [List.getElem?_map, List.getElem?_eq_getElem hjl] at hj
      exact hj
    · intro y hy
      obtain ⟨_, _, rfl⟩ := List.mem_map.1 hy
      rfl
    · intro v' w' h2 h3 _ h5
      refine h v' w' ?_ h3 h5
      rw [in_app, List.length_append]
      exact h2
end Go.Proofs.YtpkdiciinhjfjaaDoor

/- sexp: the reader's put. -/
namespace Go.Proofs.YtpkdiciinhjfjaaDoor
open Go.RowKit Mth

theorem info_sx : (Tryd.prog.info? 36).map (fun i => (i.zero, i.size, i.bytes)) = some (some (.agg #[.int .i64 0, .int .i64 0, .string ⟨#[]⟩, .bool false, .int .i64 0, .int .i64 0, .slice none 0 0]), 7, 80) := by kernel_rfl
/-- a node's cells -/
def ndCells (nd : Nd) (kv : Value) : List Value := [.int .i64 nd.kind, .int .i64 nd.tok.k, .string nd.tok.t, .bool nd.tok.q, .int .i64 nd.tok.l, .int .i64 nd.tok.c, kv]
theorem blk3r {w : World} {g : Nat} {a b c : Value} {T : TypeId} (h : w.heap[g]? = some (.cells #[a, b, c] T (0, 0))) :
    (w.cell? ⟨g, 0, none⟩ = some a ∧ w.cell? ⟨g, 1, none⟩ = some b ∧ w.cell? ⟨g, 2, none⟩ = some c) ∧ g < w.heap.size := ⟨(blk3s h).1, (blk3s h).2.2⟩
/-- what put leaves -/
def PutO (w w' : World) (B : Nat) (nv fv ov : Value) (n : Nat) (xs : List Value) (l : List Int) (nd : List Value) : Prop :=
  ∃ nv' fv', w'.heap[B]? = some (.cells #[nv', fv', ov] 58 (0, 0)) ∧ w'.ownsRow (B + 1) 36 7 nv' (n + 1) (xs ++ nd) ∧ w'.ownsRow (B + 1) 3 1 fv' (l ++ [(n : Int)]).length (inCells (l ++ [(n : Int)])) ∧
    (nv'.ownBlock = nv.ownBlock ∨ ∃ g, nv'.ownBlock = some g ∧ w.heap.size ≤ g) ∧ (fv'.ownBlock = fv.ownBlock ∨ ∃ g, fv'.ownBlock = some g ∧ w.heap.size ≤ g) ∧ (∀ g, nv'.ownBlock = some g → fv'.ownBlock ≠ some g) ∧ Keeps w w' (fun b => b ≠ B ∧ nv.ownBlock ≠ some b ∧ fv.ownBlock ≠ some b)
/-- behind an append and the store of its result into the reader's field i -/
theorem put1_of {V w3 : World} {o : Obj} {B E sz i m : Nat} {fv fv' : Value} {cs ds : Array Value} {ys : List Value} (hB : w3.heap[B]? = some (.cells cs 58 (0, 0))) (hd : cs.setIfInBounds i fv' = ds) (ho : w3.ownsRow (B + 1) E sz fv' m ys) (hg : (V.drew.alloc o).grownBy w3 fv.ownBlock) :
    (w3.setCell ⟨B, i, none⟩ fv').heap[B]? = some (.cells ds 58 (0, 0)) ∧ (w3.setCell ⟨B, i, none⟩ fv').ownsRow (B + 1) E sz fv' m ys ∧ Keeps V (w3.setCell ⟨B, i, none⟩ fv') (fun b => b ≠ B ∧ fv.ownBlock ≠ some b) := by
  refine ⟨heap_setCell_row hB hd, own_keeps ho Keeps.set (fun g h => by have := (ho.lt g h).1; omega), ?_⟩
  exact (((Keeps.of_below ((Below.refl V.heap.size V).drew.alloc (by simp) o)).weak (Y := fun b => b ≠ B ∧ fv.ownBlock ≠ some b) (fun _ _ _ => trivial)).on (Keeps.of_grown hg) (fun _ _ h => h.2)).on Keeps.set (fun _ _ h => h.1)
theorem puto_of {w V U U2 : World} {B n gg g2 m1 m2 c1 c2 : Nat} {nv fv ov : Value} {xs nd : List Value} {l : List Int} (KV : Keeps w V (fun _ => True)) (HNL : ∀ g, nv.ownBlock = some g → B + 1 ≤ g ∧ g < w.heap.size) (HFL : ∀ g, fv.ownBlock = some g → B + 1 ≤ g ∧ g < w.heap.size) (HAP : ∀ g, nv.ownBlock = some g → fv.ownBlock ≠ some g)
    (kU : Keeps V U (fun b => b ≠ B ∧ fv.ownBlock ≠ some b)) (hat : fv.ownBlock = some gg ∨ gg = V.heap.size + 1) (hgU : gg < U.heap.size) (oF : U.ownsRow (B + 1) 3 1 (.slice (some ⟨gg, 0, none⟩) m1 c1) (l ++ [(n : Int)]).length (inCells (l ++ [(n : Int)])))
    (b2 : U2.heap[B]? = some (.cells #[.slice (some ⟨g2, 0, none⟩) m2 c2, .slice (some ⟨gg, 0, none⟩) m1 c1, ov] 58 (0, 0))) (o2 : U2.ownsRow (B + 1) 36 7 (.slice (some ⟨g2, 0, none⟩) m2 c2) (n + 1) (xs ++ nd)) (k2 : Keeps U U2 (fun b => b ≠ B ∧ nv.ownBlock ≠ some b)) (hat2 : nv.ownBlock = some g2 ∨ g2 = U.heap.size + 1) :
    PutO w U2 B nv fv ov n xs l nd := by
  have hgF := (oF.lt gg rfl).1
  have e1 := KV.1
  have e2 := kU.1
  have hgn : nv.ownBlock ≠ some gg := fun e => by
    rcases hat with h | h
    · exact HAP gg e h
    · have := (HNL gg e).2; omega
  refine ⟨_, _, b2, o2, own_keeps oF k2 (fun g hg => ?_), ?_, ?_, fun g hg hf => ?_, ?_⟩
  · obtain rfl : gg = g := Option.some.inj hg
    exact ⟨by omega, hgn⟩
  · rcases hat2 with h | h
    · exact .inl h.symm
    · exact .inr ⟨g2, rfl, by omega⟩
  · rcases hat with h | h
    · exact .inl h.symm
    · exact .inr ⟨gg, rfl, by omega⟩
  · obtain rfl : g2 = g := Option.some.inj hg
    obtain rfl : gg = g2 := Option.some.inj hf
    rcases hat2 with h | h
    · exact hgn h
    · omega
  · exact ((KV.weak (Y := fun b => b ≠ B ∧ nv.ownBlock ≠ some b ∧ fv.ownBlock ≠ some b) (fun _ _ _ => trivial)).on kU (fun b _ h => ⟨h.1, h.2.2⟩)).on k2 (fun b _ h => ⟨h.1, h.2.1⟩)
set_option maxHeartbeats 8000000 in
set_option maxRecDepth 100000 in
theorem put_any (B : Nat) (nv fv ov : Value) (n : Nat) (xs : List Value) (l : List Int) (kd tk tl tc : Int) (tt : ByteArray) (tq : Bool) (ka : Option Addr) (kn kc : Nat) (w : World) (hB : w.heap[B]? = some (.cells #[nv, fv, ov] 58 (0, 0))) (hn : w.ownsRow (B + 1) 36 7 nv n xs) (hf : w.ownsRow (B + 1) 3 1 fv l.length (inCells l))
    (hap : ∀ g, nv.ownBlock = some g → fv.ownBlock ≠ some g) (hnl : n ≤ 1048576) (hll : l.length ≤ 1048576) :
    Calls Tryd.prog 38 #[.pointer (some ⟨B, 0, none⟩), .agg #[.int .i64 kd, .int .i64 tk, .string tt, .bool tq, .int .i64 tl, .int .i64 tc, .slice ka kn kc]] w
      fun e w' => e = .returned (.tuple #[]) ∧ PutO w w' B nv fv ov n xs l [.int .i64 kd, .int .i64 tk, .string tt, .bool tq, .int .i64 tl, .int .i64 tc, .slice ka kn kc] := by
  have HB := Lib.hid hB; have HN := Lib.hid hn; have HF := Lib.hid hf; have HAP := Lib.hid hap
  obtain ⟨V, eV, gV, bV, hVs⟩ := allocS w (Obj.cells #[.int .i64 kd, .int .i64 tk, .string tt, .bool tq, .int .i64 tl, .int .i64 tc, .slice ka kn kc] 36)
  have zV : V.heap.size = w.heap.size + 1 := by rw [← eV]; simp
  have KV := Lib.hid (Keeps.of_below bV)
  have hBw : B < w.heap.size := (Array.getElem?_eq_some_iff.1 hB).1
  have hBV := blkT bV hB
  have HBV := Lib.hid hBV
  have NV := Lib.hid (own_keeps hn KV.out (fun _ _ => trivial))
  have hown := own_keeps hf KV.out (fun _ _ => trivial)
  have HGV : Hid (V.heap[w.heap.size]? = _) := Lib.hid gV
  have HNL : Hid (∀ g, nv.ownBlock = some g → B + 1 ≤ g ∧ g < w.heap.size) := Lib.hid hn.lt
  have HFL : Hid (∀ g, fv.ownBlock = some g → B + 1 ≤ g ∧ g < w.heap.size) := Lib.hid hf.lt
  obtain ⟨no, nc, rfl⟩ := own_len hn
  obtain ⟨fo, fc, rfl⟩ := own_len hf
  obtain ⟨⟨p0, p1, p2⟩, hBl⟩ := blk3r hBV
  have fB := frozen_of_row V B 1 _ _ hBV
  have n0 := World.new_ne V _ p0
  have n1 := World.new_ne V _ p1
  have aB : (Value.slice fo l.length fc).ownBlock ≠ some B := fun e => by have := (HFL.out B e).1; omega
  obtain ⟨i0, hi0, hz0, hz1, hz2⟩ := info_parts info_int
  have A3 : Hid (∀ o : Obj, (V.drew.alloc o).heap[B]? = some (.cells #[.slice no n nc, .slice fo l.length fc, ov] 58 (0, 0))) := Lib.hid (fun o => (Keeps.of_below ((Below.refl V.heap.size V).drew.alloc (by simp) o)).at (b := B) trivial HBV.out)
  clear hB hn hf hap gV bV hBV zV
  go_enter Tryd.func38, Tryd.ntmps38
  go_wp2_with fail
  try rw [eV]
  go_region_law ((refine step_append_lies _ (by rfl) _ _ _ (by rfl) (B + 1) 3 i0 _ 1 8 Tryd.underlying23 hi0 hz0 hz1 hz2 rfl (by omega) (.slice fo l.length fc) l.length (inCells l) (by rfl) (hown.drew.alloc _) ⟨V.heap.size, 0, none⟩ 1 1 [.int .i64 (n : Int)] (by rfl) (by rfl) (World.news_of_block (cs := #[.int .i64 (n : Int)]) (t := 3) (fr := (0, 0)) (heap_alloc_new V.drew _)) (by simp [Value.oneCell']) (by omega) (by unfold maxLen; omega) (by omega) (by simp; omega) (V.heap.size + 1) (by simp) ?_; intro gg cap3 w3 hown1 hgrow hat hlt; have HO1 := Lib.hid hown1; have HG1 := Lib.hid hgrow; have HAT := Lib.hid hat; have HQ3 := Lib.hid ((Keeps.of_grown hgrow).at (b := B) aB (A3.out _)); have fq3 := frozen_of_row w3 B 1 _ _ HQ3.out; obtain ⟨⟨q0, q1, q2⟩, hq⟩ := blk3r HQ3.out; clear hown1 hgrow hat))
  all_goals
    go_wp2_with fail
    obtain ⟨bU, oU, kU⟩ := put1_of (i := 1) HQ3.out rfl HO1.out HG1.out
    obtain ⟨U, eU⟩ : ∃ U, w3.setCell ⟨B, 1, none⟩ (.slice (some ⟨gg, 0, none⟩) (l.length + 1) cap3) = U := ⟨_, rfl⟩
    rw [eU] at bU oU kU
    rw [eU]
    have BU := Lib.hid bU; have OU := Lib.hid oU; have KU := Lib.hid kU
    have hownN := own_keeps NV.out kU (fun g hg => ⟨by have := (HNL.out g hg).1; omega, HAP.out g hg⟩)
    have hgU : gg < U.heap.size := (oU.lt gg rfl).2
    obtain ⟨⟨u0, u1, u2⟩, hBU⟩ := blk3r bU
    have hND := kU.at (b := w.heap.size) ⟨by omega, fun e => by have := (HFL.out _ e).2; omega⟩ HGV.out
    obtain ⟨t0, t1, t2, t3, t4, t5, t6⟩ := blk7 hND
    have m0 := World.new_ne U _ u0
    have m1 := World.new_ne U _ t0
    have fU := frozen_of_row U B 0 _ _ bU
    have aN : (Value.slice no n nc).ownBlock ≠ some B := fun e => by have := (HNL.out B e).1; omega
    obtain ⟨i1, hi1, hy0, hy1, hy2⟩ := info_parts info_sx
    have A4 : Hid (∀ o : Obj, (U.drew.alloc o).heap[B]? = some (.cells #[.slice no n nc, .slice (some ⟨gg, 0, none⟩) (l.length + 1) cap3, ov] 58 (0, 0))) := Lib.hid (fun o => (Keeps.of_below ((Below.refl U.heap.size U).drew.alloc (by simp) o)).at (b := B) trivial BU.out)
    clear eU bU oU kU hND q0 q1 q2 hq fq3 p0 p1 p2 fB n0 n1 hown
    go_region_law ((refine step_append_lies _ (by rfl) _ _ _ (by rfl) (B + 1) 36 i1 _ 7 80 Tryd.underlying22 hi1 hy0 hy1 hy2 rfl (by omega) (.slice no n nc) n xs (by rfl) (hownN.drew.alloc _) ⟨U.heap.size, 0, none⟩ 1 1 [.int .i64 kd, .int .i64 tk, .string tt, .bool tq, .int .i64 tl, .int .i64 tc, .slice ka kn kc] (by rfl) (by rfl) (World.news_of_block (cs := #[.int .i64 kd, .int .i64 tk, .string tt, .bool tq, .int .i64 tl, .int .i64 tc, .slice ka kn kc]) (t := 36) (fr := (0, 0)) (heap_alloc_new U.drew _)) (by simp [Value.oneCell']) (by omega) (by unfold maxLen; omega) (by omega) (by simp; omega) (U.heap.size + 1) (by simp) ?_; intro g2 cap4 w4 hown4 hgrow4 hat4 hlt4; have HO4 := Lib.hid hown4; have HG4 := Lib.hid hgrow4; have HAT4 := Lib.hid hat4; have HQ4 := Lib.hid ((Keeps.of_grown hgrow4).at (b := B) aN (A4.out _)); have fq4 := frozen_of_row w4 B 0 _ _ HQ4.out; obtain ⟨⟨v0, v1, v2⟩, hv⟩ := blk3r HQ4.out; clear hown4 hgrow4 hat4))
    all_goals
      go_wp2
      go_end0
      obtain ⟨b2, o2, k2⟩ := put1_of (i := 0) HQ4.out rfl HO4.out HG4.out
      exact ⟨rfl, puto_of KV.out HNL.out HFL.out HAP.out KU.out HAT.out hgU (by rw [List.length_append, in_app]; exact OU.out) b2 o2 k2 HAT4.out⟩
end Go.Proofs.YtpkdiciinhjfjaaDoor

/- sexp: the reader's cut. -/
namespace Go.Proofs.YtpkdiciinhjfjaaDoor
open Go.RowKit Mth

theorem own_cut {w : World} {base size n m g cap : Nat} {e : TypeId} {xs : List Value} (h : w.ownsRow base e size (.slice (some ⟨g, 0, none⟩) n cap) n xs) (hm : m ≤ n) : w.ownsRow base e size (.slice (some ⟨g, 0, none⟩) m cap) m (xs.take (m * size)) := by
  obtain ⟨hl, h⟩ := h
  have hle : m * size ≤ n * size := Nat.mul_le_mul_right _ hm
  refine ⟨by rw [List.length_take, hl]; omega, ?_⟩
  rcases h with ⟨h, _⟩ | ⟨g', cap', cur, h, hb, hh, h1, h2, h3, h4⟩
  · cases h
  · cases h
    refine .inr ⟨g, cap, cur, rfl, hb, hh, by omega, h2, h3, ?_⟩
    rw [← h4, List.take_take, Nat.min_eq_left hle]
/-- ints in blocks that stay: X -/
def InX (w : World) (X : Nat → Prop) (v : Value) (l : List Int) : Prop := ∃ ao cap, v = .slice ao l.length cap ∧ (l ≠ [] → ∃ b off, ao = some ⟨b, off, none⟩ ∧ b < w.heap.size ∧ X b ∧ ∀ (j : Nat) x, l[j]? = some x → w.cell? ⟨b, off + j, none⟩ = some (.int .i64 x))
theorem InX.keeps {w w' : World} {X Y : Nat → Prop} {v : Value} {l : List Int} (h : InX w X v l) (hk : Keeps w w' X) (hxy : ∀ b, b < w.heap.size → X b → Y b) : InX w' Y v l := by
  obtain ⟨ao, cap, h1, h2⟩ := h
  refine ⟨ao, cap, h1, fun hn => ?_⟩
  obtain ⟨b, off, e, hl, hx, hc⟩ := h2 hn
  exact ⟨b, off, e, Nat.lt_of_lt_of_le hl hk.1, hxy b hl hx, fun j x hj => (hk.cell hl hx).trans (hc j x hj)⟩
theorem InX.inL {w : World} {X : Nat → Prop} {v : Value} {l : List Int} (h : InX w X v l) : InL w v l := by
  obtain ⟨ao, cap, h1, h2⟩ := h
  refine ⟨ao, cap, h1, fun hn => ?_⟩
  obtain ⟨b, off, e, hl, _, hc⟩ := h2 hn
  exact ⟨b, off, e, hl, hc⟩
/-- what cut leaves: the cut-off numbers in memory of their own -/
def CutO' (w w' : World) (B : Nat) (nv fv ov : Value) (l : List Int) (k : Nat) (v' : Value) : Prop :=
  ∃ fv', w'.heap[B]? = some (.cells #[nv, fv', ov] 58 (0, 0)) ∧ w'.ownsRow (B + 1) 3 1 fv' k (inCells (l.take k)) ∧ fv'.ownBlock = fv.ownBlock ∧ InX w' (fun b => w.heap.size ≤ b) v' (l.drop k) ∧ Keeps w w' (fun b => b ≠ B)
/-- the append of cut: new memory -/
theorem run_cut (w : World) (ty : TypeId) (a0 : Addr) (a : Addr) (ys : List Int) (c : Nat) (hpos : 0 < ys.length) (hlen : ys.length ≤ 4194304) (hc : ∀ (j : Nat) x, ys[j]? = some x → w.cell? (a.add j) = some (.int .i64 x)) :
    ∃ cap cs, (Builtin.append_ #[23, 23] ty #[.slice (some a0) 0 0, .slice (some a) ys.length c]).run Tryd.prog w = .ok (.slice (some ⟨w.heap.size, 0, none⟩) ys.length cap) (w.drew.alloc (.cells cs 3)) ∧ ∀ (j : Nat) x, ys[j]? = some x → cs[j]? = some (.int .i64 x) := by
  obtain ⟨i, hi, hz, hsz, hby⟩ := info_parts info_int
  have hcell : ∀ j u, (inCells ys)[j]? = some u → w.cell? (a.add j) = some u := fun j u hu => by
    have hjl : j < ys.length := by have := (List.getElem?_eq_some_iff.1 hu).1; rwa [in_len] at this
    unfold inCells at hu
    rw [List.getElem?_map, List.getElem?_eq_getElem hjl] at hu
    rw [hc j _ (List.getElem?_eq_getElem hjl)]
    exact hu
  have hr := run_append_grow (P := Tryd.prog) w 23 ty 3 i (.int .i64 0) Tryd.underlying23 hi hz a0 0 0 [] (by simp) (by intro j v hj; simp at hj) a ys.length c (inCells ys) (by rw [in_len, hsz, Nat.mul_one]) hcell (by omega) (by omega) (growslice_fits (by omega) (by rw [hby]; omega))
  simp only [Nat.zero_add] at hr
  refine ⟨_, _, hr, fun j x hj => ?_⟩
  have hjl : j < ys.length := (List.getElem?_eq_some_iff.1 hj).1
  have e : (inCells ys)[j]? = some (.int .i64 x) := by unfold inCells; rw [List.getElem?_map, hj]; rfl
  obtain ⟨e1, e2⟩ := List.getElem?_eq_some_iff.1 e
  simp [Array.getElem?_append_left, in_len, hjl]
  exact e2
theorem cut_of {w W : World} {B g cap k cp : Nat} {nv ov : Value} {l : List Int} {cs : Array Value} (hB : w.heap[B]? = some (.cells #[nv, .slice (some ⟨g, 0, none⟩) l.length cap, ov] 58 (0, 0))) (hf : w.ownsRow (B + 1) 3 1 (.slice (some ⟨g, 0, none⟩) l.length cap) l.length (inCells l)) (hk : k < l.length)
    (hcs : ∀ (j : Nat) x, (l.drop k)[j]? = some x → cs[j]? = some (.int .i64 x)) (hW : W = w.drew.drew.alloc (.cells cs 3)) :
    CutO' w (W.setCell ⟨B, 1, none⟩ (.slice (some ⟨g, 0, none⟩) k cap)) B nv (.slice (some ⟨g, 0, none⟩) l.length cap) ov l k (.slice (some ⟨w.heap.size, 0, none⟩) (l.length - k) cp) := by
  have bW : Below w.heap.size w W := by rw [hW]; exact (Below.refl w.heap.size w).drew.drew.alloc (Nat.le_refl _) _
  have gW : W.heap[w.heap.size]? = some (.cells cs 3 (0, 0)) := by rw [hW]; exact heap_alloc_new w.drew.drew _
  have hBl : B < w.heap.size := (Array.getElem?_eq_some_iff.1 hB).1
  have hgl := (hf.lt g rfl).1
  have ho := own_cut (own_keeps hf (Keeps.of_below bW) (fun _ _ => trivial)) (Nat.le_of_lt hk)
  refine ⟨_, heap_setCell_row (blkT bW hB) rfl, own_keeps ?_ Keeps.set (fun x hx => by obtain rfl : g = x := Option.some.inj hx; omega), rfl, ?_, ((Keeps.of_below bW).weak (fun _ _ _ => trivial)).on Keeps.set (fun _ _ h => h)⟩
  · rw [show inCells (l.take k) = (inCells l).take (k * 1) by unfold inCells; rw [Nat.mul_one, List.map_take]]
    exact ho
  · have hlt : w.heap.size < W.heap.size := (Array.getElem?_eq_some_iff.1 gW).1
    refine ⟨_, _, by rw [List.length_drop], fun _ => ⟨w.heap.size, 0, rfl, by simpa using hlt, Nat.le_refl _, fun j x hj => ?_⟩⟩
    rw [Nat.zero_add, (Keeps.set (w := W) (g := B)).cell hlt (by omega), cell_of_row W w.heap.size j _ _ (0, 0) gW]
    exact hcs j x hj
set_option maxHeartbeats 8000000 in
set_option maxRecDepth 100000 in
theorem cut_some (B g cap : Nat) (nv ov : Value) (l : List Int) (k : Nat) (w : World) (hB : w.heap[B]? = some (.cells #[nv, .slice (some ⟨g, 0, none⟩) l.length cap, ov] 58 (0, 0))) (hf : w.ownsRow (B + 1) 3 1 (.slice (some ⟨g, 0, none⟩) l.length cap) l.length (inCells l)) (hll : l.length ≤ 1048576) (hk : k < l.length) :
    Calls Tryd.prog 56 #[.pointer (some ⟨B, 0, none⟩), .int .i64 (k : Int)] w fun e w' => ∃ v', e = .returned v' ∧ CutO' w w' B nv (.slice (some ⟨g, 0, none⟩) l.length cap) ov l k v' := by
  have HB := Lib.hid hB; have HF := Lib.hid hf
  have hBl : B < w.heap.size := (Array.getElem?_eq_some_iff.1 hB).1
  obtain ⟨⟨p0, p1, p2⟩, -⟩ := blk3r hB
  have fB := frozen_of_row w B 1 _ _ hB
  have hcap := own_cap hf
  obtain ⟨cp, cs, hrun, hcs⟩ := run_cut w.drew 23 ⟨g, 0, none⟩ ⟨g, k, none⟩ (l.drop k) (cap - k) (by rw [List.length_drop]; omega) (by rw [List.length_drop]; omega) (by
    intro j x hj
    rw [List.getElem?_drop] at hj
    rw [Addr.add_lit, World.cell?_drew, hf.cellAt (k + j) (by have := (List.getElem?_eq_some_iff.1 hj).1; omega)]
    unfold inCells
    rw [List.getElem?_map, hj]; rfl)
  rw [List.length_drop] at hrun
  obtain ⟨W, hW⟩ : ∃ W, w.drew.drew.alloc (.cells cs 3) = W := ⟨_, rfl⟩
  rw [hW] at hrun
  have HR := Lib.hid hrun
  have HW := Lib.hid hW
  have bW : Below w.heap.size w W := by rw [← hW]; exact (Below.refl w.heap.size w).drew.drew.alloc (Nat.le_refl _) _
  obtain ⟨⟨q0, q1, q2⟩, -⟩ := blk3r (blkT bW hB)
  have fW := frozen_of_row W B 1 _ _ (blkT bW hB)
  clear hB hf hrun hW bW
  have hk1 : (k : Int) ≤ (cap : Int) := by omega
  have hk2 : (k : Int) ≤ (l.length : Int) := by omega
  have hk3 : (0 : Int) ≤ (k : Int) := by omega
  have hk4 : (k == cap) = false := beq_eq_false_iff_ne.2 (by omega)
  have hk5 : ¬ k = cap := by omega
  have hk6 : ¬ cap = k := by omega
  go_enter Tryd.func56, Tryd.ntmps56
  go_wp2_with fail
  go_still_tail 14, (by kernel_rfl)
  go_wp2_with (at_builtin; refine Lib.wpList_append_run_sl _ rfl (.tmp 13) (.tmp 19) 23 rfl _ _ rfl rfl HR.out ?_)
  go_ret
  exact ⟨_, rfl, cut_of HB.out HF.out hk hcs HW.out.symm⟩
theorem cut_nil {w : World} {B : Nat} {ao ad : Option Addr} {cap : Nat} {nv ov : Value} {l : List Int} (hB : w.heap[B]? = some (.cells #[nv, .slice ao l.length cap, ov] 58 (0, 0))) (hf : w.ownsRow (B + 1) 3 1 (.slice ao l.length cap) l.length (inCells l)) :
    CutO' w (w.setCell ⟨B, 1, none⟩ (.slice ao l.length cap)).drew B nv (.slice ao l.length cap) ov l l.length (.slice ad 0 0) := by
  have k1 : Keeps w (w.setCell ⟨B, 1, none⟩ (.slice ao l.length cap)) (fun b => b ≠ B) := Keeps.set
  have k2 := k1.on (keeps_drew _ (fun b => b ≠ B)) (fun _ _ h => h)
  refine ⟨_, (keeps_drew _ (fun _ => True)).at trivial (heap_setCell_row hB rfl), own_keeps (by rw [List.take_length]; exact hf) k2 (fun x hx => by have := (hf.lt x hx).1; omega), rfl, ⟨_, _, by rw [List.drop_length]; rfl, fun h => absurd List.drop_length h⟩, k2⟩
set_option maxHeartbeats 8000000 in
set_option maxRecDepth 100000 in
theorem cut_full (B g cap : Nat) (nv ov : Value) (l : List Int) (w : World) (hB : w.heap[B]? = some (.cells #[nv, .slice (some ⟨g, 0, none⟩) l.length cap, ov] 58 (0, 0))) (hf : w.ownsRow (B + 1) 3 1 (.slice (some ⟨g, 0, none⟩) l.length cap) l.length (inCells l)) (hll : l.length ≤ 1048576) (hk : l.length = cap) :
    Calls Tryd.prog 56 #[.pointer (some ⟨B, 0, none⟩), .int .i64 (l.length : Int)] w fun e w' => ∃ v', e = .returned v' ∧ CutO' w w' B nv (.slice (some ⟨g, 0, none⟩) l.length cap) ov l l.length v' := by
  have HB := Lib.hid hB; have HF := Lib.hid hf
  have hBl : B < w.heap.size := (Array.getElem?_eq_some_iff.1 hB).1
  obtain ⟨⟨p0, p1, p2⟩, -⟩ := blk3r hB
  have fB := frozen_of_row w B 1 _ _ hB
  have hcap := own_cap hf
  obtain ⟨i, hi, hz, hsz, hby⟩ := info_parts info_int
  have HR : Hid (∀ (a : Addr) (c : Nat) (u : World), (Builtin.append_ #[23, 23] 23 #[.slice (some ⟨g, 0, none⟩) 0 0, .slice (some a) 0 c]).run Tryd.prog u = .ok (.slice (some ⟨g, 0, none⟩) 0 0) u) := Lib.hid fun a c u => run_append_nothing u 23 23 23 3 i Tryd.underlying23 hi _ 0 0 (Nat.le_refl _) _ (Src.ofSlice u Tryd.underlying23 a 0 c [] (by simp) (fun j v h => by simp at h) (fun v h => by cases h))
  clear hB hf hi hz hsz hby
  have hk3 : (0 : Int) ≤ (l.length : Int) := by omega
  subst hk
  go_enter Tryd.func56, Tryd.ntmps56
  go_wp2_with fail
  go_still_tail 14, (by kernel_rfl)
  go_wp2_with (at_builtin; refine Lib.wpList_append_run_sl _ rfl (.tmp 13) (.tmp 19) 23 rfl _ _ rfl rfl (HR.out _ _ _) ?_)
  go_ret
  exact ⟨_, rfl, cut_nil HB.out HF.out⟩
set_option maxHeartbeats 8000000 in
set_option maxRecDepth 100000 in
theorem cut_room (B g cap : Nat) (nv ov : Value) (l : List Int) (w : World) (hB : w.heap[B]? = some (.cells #[nv, .slice (some ⟨g, 0, none⟩) l.length cap, ov] 58 (0, 0))) (hf : w.ownsRow (B + 1) 3 1 (.slice (some ⟨g, 0, none⟩) l.length cap) l.length (inCells l)) (hll : l.length ≤ 1048576) (hk : l.length < cap) :
    Calls Tryd.prog 56 #[.pointer (some ⟨B, 0, none⟩), .int .i64 (l.length : Int)] w fun e w' => ∃ v', e = .returned v' ∧ CutO' w w' B nv (.slice (some ⟨g, 0, none⟩) l.length cap) ov l l.length v' := by
  have HB := Lib.hid hB; have HF := Lib.hid hf
  have hBl : B < w.heap.size := (Array.getElem?_eq_some_iff.1 hB).1
  obtain ⟨⟨p0, p1, p2⟩, -⟩ := blk3r hB
  have fB := frozen_of_row w B 1 _ _ hB
  have hcap := own_cap hf
  obtain ⟨i, hi, hz, hsz, hby⟩ := info_parts info_int
  have HR : Hid (∀ (a : Addr) (c : Nat) (u : World), (Builtin.append_ #[23, 23] 23 #[.slice (some ⟨g, 0, none⟩) 0 0, .slice (some a) 0 c]).run Tryd.prog u = .ok (.slice (some ⟨g, 0, none⟩) 0 0) u) := Lib.hid fun a c u => run_append_nothing u 23 23 23 3 i Tryd.underlying23 hi _ 0 0 (Nat.le_refl _) _ (Src.ofSlice u Tryd.underlying23 a 0 c [] (by simp) (fun j v h => by simp at h) (fun v h => by cases h))
  clear hB hf hi hz hsz hby
  have hk3 : (0 : Int) ≤ (l.length : Int) := by omega
  have hk1 : (l.length : Int) ≤ (cap : Int) := by omega
  have hk4 : (l.length == cap) = false := beq_eq_false_iff_ne.2 (by omega)
  have hk5 : ¬ l.length = cap := by omega
  have hk6 : ¬ cap = l.length := by omega
  clear hk
  go_enter Tryd.func56, Tryd.ntmps56
  go_wp2_with fail
  go_still_tail 14, (by kernel_rfl)
  go_wp2_with (at_builtin; refine Lib.wpList_append_run_sl _ rfl (.tmp 13) (.tmp 19) 23 rfl _ _ rfl rfl (HR.out _ _ _) ?_)
  go_ret
  exact ⟨_, rfl, cut_nil HB.out HF.out⟩
set_option maxHeartbeats 8000000 in
set_option maxRecDepth 100000 in
theorem cut_zero (B : Nat) (nv ov : Value) (w : World) (hB : w.heap[B]? = some (.cells #[nv, .slice none 0 0, ov] 58 (0, 0))) :
    Calls Tryd.prog 56 #[.pointer (some ⟨B, 0, none⟩), .int .i64 0] w fun e w' => ∃ v', e = .returned v' ∧ CutO' w w' B nv (.slice none 0 0) ov [] 0 v' := by
  have HB := Lib.hid hB
  have hBl : B < w.heap.size := (Array.getElem?_eq_some_iff.1 hB).1
  obtain ⟨⟨p0, p1, p2⟩, -⟩ := blk3r hB
  have fB := frozen_of_row w B 1 _ _ hB
  obtain ⟨i, hi, hz, hsz, hby⟩ := info_parts info_int
  have HR : Hid (∀ (u : World), (Builtin.append_ #[23, 23] 23 #[.slice none 0 0, .slice none 0 0]).run Tryd.prog u = .ok (.slice none 0 0) u) := Lib.hid fun u => run_append_nothing u 23 23 23 3 i Tryd.underlying23 hi _ 0 0 (Nat.le_refl _) _ (Src.ofNil u Tryd.underlying23 0)
  clear hB hi hz hsz hby
  go_enter Tryd.func56, Tryd.ntmps56
  go_wp2_with fail
  go_still_tail 14, (by kernel_rfl)
  go_wp2_with (at_builtin; refine Lib.wpList_append_run_sl _ rfl (.tmp 13) (.tmp 19) 23 rfl _ _ rfl rfl (HR.out _) ?_)
  go_ret
  exact ⟨_, rfl, cut_nil (l := []) HB.out (World.ownsRow_nil _ _ _ _)⟩
theorem cut_any (B k : Nat) (nv fv ov : Value) (l : List Int) (w : World) (hB : w.heap[B]? = some (.cells #[nv, fv, ov] 58 (0, 0))) (hf : w.ownsRow (B + 1) 3 1 fv l.length (inCells l)) (hll : l.length ≤ 1048576) (hk : k ≤ l.length) :
    Calls Tryd.prog 56 #[.pointer (some ⟨B, 0, none⟩), .int .i64 (k : Int)] w fun e w' => ∃ v', e = .returned v' ∧ CutO' w w' B nv fv ov l k v' := by
  have hf2 := hf.2
  rcases hf2 with ⟨rfl, h0⟩ | ⟨g, cap, _, rfl, _⟩
  · obtain rfl := List.eq_nil_of_length_eq_zero h0
    obtain rfl : k = 0 := by simpa using hk
    exact cut_zero B nv ov w hB
  · rcases Nat.lt_or_ge k l.length with h | h
    · exact cut_some B g cap nv ov l k w hB hf hll h
    · obtain rfl : k = l.length := by omega
      rcases Nat.lt_or_ge l.length cap with hc | hc
      · exact cut_room B g cap nv ov l w hB hf hll hc
      · exact cut_full B g cap nv ov l w hB hf hll (by have := own_cap hf; omega)
end Go.Proofs.YtpkdiciinhjfjaaDoor
