/- PXP PXQ PXR PXS PXT PXU. -/
import Derived.Test.YtpkdiciinhjfjaaDoorPG2
import Derived.Maps.OwnSet
import Derived.Maps.OwnOps
import Derived.StillTailTactics
set_option linter.unusedVariables false
set_option linter.unusedSimpArgs false
/- sexp: the run of fold: each node's number, by induction over numbers. -/
namespace Go.Proofs.YtpkdiciinhjfjaaDoor
open Go.RowKit Mth

def updN (m : Nat → Option Int) (n : Nat) (v : Int) : Nat → Option Int := fun x => if x = n then some v else m x
theorem updN_same (m : Nat → Option Int) (n : Nat) (v : Int) : updN m n v n = some v := if_pos rfl
theorem updN_other {m : Nat → Option Int} {n : Nat} {v : Int} {x : Nat} (h : x ≠ n) : updN m n v x = m x := if_neg h
open Classical in
/-- what fold's enter says of a node, and what is known behind it -/
noncomputable def entF (base : Nd → Int) (T : List Nd) (s : (Nat → Option Int) × Bool) (n : Nat) : Bool × ((Nat → Option Int) × Bool) :=
  if (s.1 n).isSome = true ∨ s.2 = false then (false, s) else match T[n]? with
    | some nd => if SndN nd n then (true, (updN s.1 n (base nd), true)) else (false, (updN s.1 n 0, false))
    | none => (false, s)
def addK (more : Int → Int → Int) (n : Nat) (m : Nat → Option Int) (k : Int) : Nat → Option Int := updN m n (more ((m n).getD 0) ((m k.toNat).getD 0))
def lvF (more : Int → Int → Int) (T : List Nd) (s : (Nat → Option Int) × Bool) (n : Nat) : (Nat → Option Int) × Bool := ((kidsF T (n : Int)).foldl (addK more n) s.1, s.2)
/-- a node's number -/
def numF (base : Nd → Int) (more : Int → Int → Int) (T : List Nd) (n : Nat) : Int := match T[n]? with
  | none => 0
  | some nd => (if nd.kind = 2 then nd.kids else []).foldl (fun a x => more a (if _h : x.toNat < n then numF base more T x.toNat else 0)) (base nd)
termination_by n
theorem foldl_eq {f g : Int → Int → Int} : ∀ {l : List Int} {a : Int}, (∀ a, ∀ x ∈ l, f a x = g a x) → l.foldl f a = l.foldl g a
  | [], _, _ => rfl
  | x :: l, a, h => by rw [List.foldl_cons, List.foldl_cons, h a x (List.mem_cons_self ..)]; exact foldl_eq (fun a y hy => h a y (List.mem_cons_of_mem _ hy))
theorem kidsF_at {T : List Nd} {n : Nat} (hn : n < T.length) : kidsF T (n : Int) = if T[n].kind = 2 then T[n].kids else [] := by unfold kidsF; rw [ndAt_some hn]
theorem kidsF_lt {T : List Nd} {n : Nat} (hn : n < T.length) (hs : SndN T[n] n) : ∀ x ∈ kidsF T (n : Int), 0 ≤ x ∧ x < (n : Int) := by
  rw [kidsF_at hn]
  rcases hs with ⟨k1, -⟩ | ⟨k2, h⟩
  · rw [if_neg (by omega)]; exact fun x hx => by cases hx
  · rw [if_pos k2]; exact h
theorem num_at {base : Nd → Int} {more : Int → Int → Int} {T : List Nd} {n : Nat} (hn : n < T.length) (hs : SndN T[n] n) : numF base more T n = (kidsF T (n : Int)).foldl (fun a x => more a (numF base more T x.toNat)) (base T[n]) := by
  rw [numF, List.getElem?_eq_getElem hn]
  show ((if T[n].kind = 2 then T[n].kids else []).foldl _ (base T[n])) = _
  rw [← kidsF_at hn]
  refine foldl_eq fun a x hx => ?_
  have := kidsF_lt hn hs x hx
  rw [dif_pos (by omega)]
theorem sound_at {T : List Nd} {n : Nat} (hn : n < T.length) (hs : SndN T[n] n) (hk : ∀ x ∈ kidsF T (n : Int), Sound T x.toNat) : Sound T n := Sound.mk n hn hs (fun k2 x hx => hk x (by rw [kidsF_at hn, if_pos k2]; exact hx))
theorem sound_snd {T : List Nd} {n : Nat} (h : Sound T n) : ∃ hn : n < T.length, SndN T[n] n ∧ ∀ x ∈ kidsF T (n : Int), Sound T x.toNat := by
  cases h with
  | mk n hn hs hk =>
    refine ⟨hn, hs, fun x hx => ?_⟩
    rw [kidsF_at hn] at hx
    split at hx
    · exact hk ‹_› x hx
    · cases hx
/-- in what range numbers stay -/
structure Rng (base : Nd → Int) (more : Int → Int → Int) (okV : Nat → Int → Prop) (T : List Nd) : Prop where
  zero : ∀ x, okV x 0
  base : ∀ n (h : n < T.length), SndN T[n] n → okV n (base T[n])
  more : ∀ n k a b, k < n → okV n a → okV k b → okV n (more a b)
def AllOk (T : List Nd) (okV : Nat → Int → Prop) (m : Nat → Option Int) : Prop := ∀ x v, m x = some v → x < T.length ∧ okV x v
def okEF (T : List Nd) (okV : Nat → Int → Prop) (s : (Nat → Option Int) × Bool) (n : Nat) : Prop := n < T.length ∧ AllOk T okV s.1
def okLF (T : List Nd) (okV : Nat → Int → Prop) (s : (Nat → Option Int) × Bool) (n : Nat) : Prop := (∃ hn : n < T.length, SndN T[n] n) ∧ (s.1 n).isSome = true ∧ AllOk T okV s.1
theorem allOk_upd {T : List Nd} {okV : Nat → Int → Prop} {m : Nat → Option Int} {n : Nat} {v : Int} (h : AllOk T okV m) (hn : n < T.length) (hv : okV n v) : AllOk T okV (updN m n v) := by
  intro x u hx
  by_cases e : x = n
  · subst e; rw [updN_same] at hx; obtain rfl := Option.some.inj hx; exact ⟨hn, hv⟩
  · rw [updN_other e] at hx; exact h x u hx
theorem okGet {T : List Nd} {base : Nd → Int} {more : Int → Int → Int} {okV : Nat → Int → Prop} (R : Rng base more okV T) {m : Nat → Option Int} (h : AllOk T okV m) (x : Nat) : okV x ((m x).getD 0) := by
  cases e : m x with
  | none => exact R.zero x
  | some v => exact (h x v e).2
/-- what comes of the kids' numbers -/
theorem addK_fold {base : Nd → Int} {more : Int → Int → Int} {okV : Nat → Int → Prop} {T : List Nd} (R : Rng base more okV T) {n : Nat} (hn : n < T.length) : ∀ (ks : List Int) (m : Nat → Option Int), (∀ x ∈ ks, 0 ≤ x ∧ x < (n : Int)) → (m n).isSome = true → AllOk T okV m →
    AllOk T okV (ks.foldl (addK more n) m) ∧ (∀ x, x ≠ n → ks.foldl (addK more n) m x = m x) ∧ ks.foldl (addK more n) m n = some (ks.foldl (fun a x => more a ((m x.toNat).getD 0)) ((m n).getD 0))
  | [], m, _, hm, ho => by
    refine ⟨ho, fun _ _ => rfl, ?_⟩
    obtain ⟨v, e⟩ := Option.isSome_iff_exists.1 hm
    show m n = some ((m n).getD 0)
    rw [e]; rfl
  | k :: ks, m, hk, hm, ho => by
    have hk0 := hk k (List.mem_cons_self ..)
    have hmore : okV n (more ((m n).getD 0) ((m k.toNat).getD 0)) := R.more n k.toNat _ _ (by omega) (okGet R ho n) (okGet R ho k.toNat)
    obtain ⟨a, b, c⟩ := addK_fold R hn ks (addK more n m k) (fun x hx => hk x (List.mem_cons_of_mem _ hx)) (by unfold addK; rw [updN_same]; rfl) (allOk_upd ho hn hmore)
    refine ⟨a, fun x hx => (b x hx).trans (updN_other hx), ?_⟩
    rw [List.foldl_cons, c, List.foldl_cons]
    have e1 : (addK more n m k n).getD 0 = more ((m n).getD 0) ((m k.toNat).getD 0) := by unfold addK; rw [updN_same]; rfl
    rw [e1]
    congr 1
    refine foldl_eq fun a x hx => ?_
    have := hk x (List.mem_cons_of_mem _ hx)
    have e2 : addK more n m k x.toNat = m x.toNat := updN_other (by omega)
    rw [e2]
/-- what is known at numbers up to n is final -/
def FinUp (base : Nd → Int) (more : Int → Int → Int) (T : List Nd) (s : (Nat → Option Int) × Bool) (n : Nat) : Prop := s.2 = true → ∀ x, x < n → ∀ v, s.1 x = some v → v = numF base more T x ∧ Sound T x
def Grows (s s' : (Nat → Option Int) × Bool) : Prop := ∀ x v, s.1 x = some v → s'.1 x = some v
set_option maxHeartbeats 2000000 in
theorem fold_node {base : Nd → Int} {more : Int → Int → Int} {okV : Nat → Int → Prop} {T : List Nd} (R : Rng base more okV T) (HK : ∀ nd ∈ T, nd.kids.length ≤ 4611686018427387903) (n : Nat) : n < T.length → ∀ (L : List (Nat × Nat)) (s : (Nat → Option Int) × Bool), L.length + n < 1048576 → AllOk T okV s.1 → FinUp base more T s (n + 1) →
    ∃ s', (∀ s1 j, Goes T (entF base T) (lvF more T) (okEF T okV) (okLF T okV) s1 j (L, s') → ∃ j', Goes T (entF base T) (lvF more T) (okEF T okV) (okLF T okV) s1 j' (intoC (entF base T) L s n)) ∧
      AllOk T okV s'.1 ∧ Grows s s' ∧ (∀ x, n < x → s'.1 x = s.1 x) ∧ (s'.2 = true → s.2 = true ∧ (s'.1 n).isSome = true) ∧ FinUp base more T s' (n + 1) ∧ (s.2 = true → s'.2 = false → ¬ Sound T n) := by
  induction n using Nat.strongRecOn with
  | _ n ih =>
    intro hn L s hL hok hfin
    by_cases h0 : (s.1 n).isSome = true ∨ s.2 = false
    · have e : entF base T s n = (false, s) := if_pos h0
      refine ⟨s, fun s1 j hg => ⟨j, ?_⟩, hok, fun _ _ h => h, fun _ _ => rfl, fun h => ⟨h, ?_⟩, hfin, fun h1 h2 => ?_⟩
      · unfold intoC; rw [e]; exact hg
      · rcases h0 with h0 | h0
        · exact h0
        · rw [h] at h0; cases h0
      · rw [h1] at h2; cases h2
    · have hnone : s.1 n = none := by
        cases e : s.1 n with
        | none => rfl
        | some v => exact absurd (.inl (by rw [e]; rfl)) h0
      have hs2 : s.2 = true := by
        cases e : s.2 with
        | true => rfl
        | false => exact absurd (.inr e) h0
      by_cases hs : SndN T[n] n
      · have e : entF base T s n = (true, (updN s.1 n (base T[n]), true)) := by
          unfold entF; rw [if_neg h0, List.getElem?_eq_getElem hn]; exact if_pos hs
        have hkl := kidsF_lt hn hs
        have hlen : (kidsF T (n : Int)).length ≤ 4611686018427387903 := by
          rw [kidsF_at hn]; split
          · exact HK _ (List.getElem_mem hn)
          · simp
        have H : ∀ (rest : List Int) (i : Nat) (s : (Nat → Option Int) × Bool), (kidsF T (n : Int)).drop i = rest → i ≤ (kidsF T (n : Int)).length → AllOk T okV s.1 → FinUp base more T s n →
            ∃ s', (∀ s1 j, Goes T (entF base T) (lvF more T) (okEF T okV) (okLF T okV) s1 j (L ++ [(n, (kidsF T (n : Int)).length)], s') → ∃ j', Goes T (entF base T) (lvF more T) (okEF T okV) (okLF T okV) s1 j' (L ++ [(n, i)], s)) ∧
              AllOk T okV s'.1 ∧ Grows s s' ∧ (∀ x, n ≤ x → s'.1 x = s.1 x) ∧ (s'.2 = true → s.2 = true ∧ ∀ x ∈ rest, (s'.1 x.toNat).isSome = true) ∧ FinUp base more T s' n ∧ (s.2 = true → s'.2 = false → ∃ x ∈ rest, ¬ Sound T x.toNat) := by
          intro rest
          induction rest with
          | nil =>
            intro i s hd hi hok hfin
            have : i = (kidsF T (n : Int)).length := by have := List.drop_eq_nil_iff.1 hd; omega
            subst this
            exact ⟨s, fun s1 j hg => ⟨j, hg⟩, hok, fun _ _ h => h, fun _ _ => rfl, fun h => ⟨h, fun x hx => by cases hx⟩, hfin, fun h1 h2 => by rw [h1] at h2; cases h2⟩
          | cons x rest ih2 =>
            intro i s hd hi hok hfin
            have hlt2 : i < (kidsF T (n : Int)).length := by
              rcases Nat.lt_or_ge i (kidsF T (n : Int)).length with h | h
              · exact h
              · rw [List.drop_eq_nil_of_le h] at hd; cases hd
            rw [List.drop_eq_getElem_cons hlt2] at hd
            obtain ⟨hx, hd2⟩ := List.cons.inj hd
            have hx0 := hkl x (hx ▸ List.getElem_mem hlt2)
            obtain ⟨s2, g2, a2, b2, c2, d2, f2, n2⟩ := ih x.toNat (by omega) (by omega) (L ++ [(n, i + 1)]) s (by simp; omega) hok (fun h y hy => hfin h y (by omega))
            obtain ⟨s3, g3, a3, b3, c3, d3, f3, n3⟩ := ih2 (i + 1) s2 hd2 (by omega) a2 (fun h y hy v hv => by
              rcases Nat.lt_or_ge y (x.toNat + 1) with hl | hl
              · exact f2 h y hl v hv
              · rw [c2 y (by omega)] at hv; exact hfin (d2 h).1 y hy v hv)
            refine ⟨s3, fun s1 j hg => ?_, a3, fun y v hv => b3 y v (b2 y v hv), fun y hy => (c3 y hy).trans (c2 y (by omega)), fun h => ?_, f3, fun h1 h2 => ?_⟩
            · obtain ⟨j1, hg1⟩ := g3 s1 j hg
              obtain ⟨j2, hg2⟩ := g2 s1 j1 hg1
              exact ⟨j2 + 1, Goes.into L s n i x.toNat (by rw [List.getElem?_eq_getElem hlt2, hx]; congr 1; omega) ⟨by omega, hok⟩ (by omega) (by omega) hg2⟩
            · obtain ⟨h3, h4⟩ := d3 h
              obtain ⟨h5, h6⟩ := d2 h3
              refine ⟨h5, fun y hy => ?_⟩
              rcases List.mem_cons.1 hy with rfl | hy
              · obtain ⟨v, e⟩ := Option.isSome_iff_exists.1 h6
                rw [b3 _ v e]; rfl
              · exact h4 y hy
            · cases e : s2.2 with
              | false => exact ⟨x, List.mem_cons_self .., n2 h1 e⟩
              | true =>
                obtain ⟨y, hy, hns⟩ := n3 e h2
                exact ⟨y, List.mem_cons_of_mem _ hy, hns⟩
        have hfin0 : FinUp base more T (updN s.1 n (base T[n]), true) n := fun _ y hy v hv => by
          replace hv : updN s.1 n (base T[n]) y = some v := hv
          rw [updN_other (by omega)] at hv
          exact hfin hs2 y (by omega) v hv
        obtain ⟨sk, gk, ak, bk, ck, dk, fk, nk⟩ := H _ 0 (updN s.1 n (base T[n]), true) rfl (Nat.zero_le _) (allOk_upd hok hn (R.base n hn hs)) hfin0
        have hkn : sk.1 n = some (base T[n]) := bk n _ (updN_same _ _ _)
        obtain ⟨p1, p2, p3⟩ := addK_fold R hn (kidsF T (n : Int)) sk.1 hkl (by rw [hkn]; rfl) ak
        have hfin2 : sk.2 = true → ∀ x ∈ kidsF T (n : Int), sk.1 x.toNat = some (numF base more T x.toNat) ∧ Sound T x.toNat := fun h x hx => by
          obtain ⟨v, e⟩ := Option.isSome_iff_exists.1 ((dk h).2 x (by simpa using hx))
          have := hkl x hx
          obtain ⟨rfl, h2⟩ := fk h x.toNat (by omega) v e
          exact ⟨e, h2⟩
        refine ⟨lvF more T sk n, fun s1 j hg => ?_, p1, fun x v hv => ?_, fun x hx => ?_, fun h => ⟨hs2, ?_⟩, fun h x hx v hv => ?_, fun _ h => ?_⟩
        · obtain ⟨j', hj⟩ := gk s1 (j + 1) (Goes.leave L sk n ⟨⟨hn, hs⟩, by rw [hkn]; rfl, ak⟩ hg)
          refine ⟨j', ?_⟩
          unfold intoC
          rw [e]
          exact hj
        · have hxn : x ≠ n := fun e => by rw [e, hnone] at hv; cases hv
          show (kidsF T (n : Int)).foldl (addK more n) sk.1 x = some v
          rw [p2 x hxn]
          exact bk x v (by show updN s.1 n _ x = some v; rw [updN_other hxn]; exact hv)
        · show (kidsF T (n : Int)).foldl (addK more n) sk.1 x = s.1 x
          rw [p2 x (by omega), ck x (by omega)]
          exact updN_other (by omega)
        · show ((kidsF T (n : Int)).foldl (addK more n) sk.1 n).isSome = true
          rw [p3]; rfl
        · have hsk : sk.2 = true := h
          replace hv : (kidsF T (n : Int)).foldl (addK more n) sk.1 x = some v := hv
          by_cases e : x = n
          · subst e
            rw [p3, hkn] at hv
            have hv := Option.some.inj hv
            refine ⟨?_, sound_at hn hs (fun y hy => (hfin2 hsk y hy).2)⟩
            rw [← hv, num_at hn hs]
            refine foldl_eq fun a y hy => ?_
            rw [(hfin2 hsk y hy).1]; rfl
          · rw [p2 x e] at hv
            exact fk hsk x (by omega) v hv
        · have hsk : sk.2 = false := h
          obtain ⟨x, hx, hns⟩ := nk rfl hsk
          intro hso
          obtain ⟨_, _, hk⟩ := sound_snd hso
          exact hns (hk x (by simpa using hx))
      · have e : entF base T s n = (false, (updN s.1 n 0, false)) := by
          unfold entF; rw [if_neg h0, List.getElem?_eq_getElem hn]; exact if_neg hs
        refine ⟨(updN s.1 n 0, false), fun s1 j hg => ⟨j, ?_⟩, allOk_upd hok hn (R.zero n), fun x v hv => ?_, fun x hx => updN_other (by omega), fun h => (by cases h), fun h => (by cases h), fun _ _ hso => ?_⟩
        · unfold intoC; rw [e]; exact hg
        · have hxn : x ≠ n := fun e => by rw [e, hnone] at hv; cases hv
          show updN s.1 n 0 x = some v
          rw [updN_other hxn]; exact hv
        · obtain ⟨_, h, _⟩ := sound_snd hso
          exact hs h
/-- fold's run, from a node of the table -/
theorem fold_run {base : Nd → Int} {more : Int → Int → Int} {okV : Nat → Int → Prop} {T : List Nd} (R : Rng base more okV T) (HK : ∀ nd ∈ T, nd.kids.length ≤ 4611686018427387903) {r : Nat} (hr : r < T.length) (hr2 : r < 1048576) :
    ∃ s1 j, Goes T (entF base T) (lvF more T) (okEF T okV) (okLF T okV) s1 j (intoC (entF base T) [] (fun _ => none, true) r) ∧ ((s1.2 = true ∧ Sound T r ∧ s1.1 r = some (numF base more T r)) ∨ (s1.2 = false ∧ ¬ Sound T r)) := by
  obtain ⟨s', g, -, -, -, d, f, nn⟩ := fold_node R HK r hr [] (fun _ => none, true) (by simpa using hr2) (fun x v h => by cases h) (fun _ x _ v h => by cases h)
  obtain ⟨j', hg⟩ := g s' 0 Goes.done
  refine ⟨s', j', hg, ?_⟩
  cases e : s'.2 with
  | true =>
    obtain ⟨v, hv⟩ := Option.isSome_iff_exists.1 (d e).2
    obtain ⟨rfl, h2⟩ := f e r (by omega) v hv
    exact .inl ⟨rfl, h2, hv⟩
  | false => exact .inr ⟨rfl, nn rfl e⟩
end Go.Proofs.YtpkdiciinhjfjaaDoor

/- sexp: a map of numbers of nodes in memory. -/
namespace Go.Proofs.YtpkdiciinhjfjaaDoor
open Go.RowKit Mth

theorem lawI : Maps.Keyed Tryd.prog 3 := Maps.int_keyed Tryd.underlying3
theorem zeroI (w : World) : (zeroValue 3).run Tryd.prog w = .ok (.int .i64 0) w := by kernel_rfl
def keyI (x : Nat) : Lit := .int .i64 (x : Int)
theorem keyI_ne {x y : Nat} (h : x ≠ y) : keyI x ≠ keyI y := fun e => by unfold keyI at e; simp only [Lit.int.injEq, true_and] at e; omega
theorem keyI_of {x : Nat} (h : x ≤ 4611686018427387904) : keyOf Tryd.prog 3 (.int .i64 (x : Int)) = some (keyI x) := Maps.keyOf_int_mk Tryd.underlying3 (WalkArith.wf_i64 (by omega))
def cntN (m : Nat → Option Int) : Nat → Nat
  | 0 => 0
  | n + 1 => cntN m n + (if (m n).isSome = true then 1 else 0)
theorem cnt_le (m : Nat → Option Int) : ∀ n, cntN m n ≤ n
  | 0 => Nat.le_refl _
  | n + 1 => by have := cnt_le m n; unfold cntN; split <;> omega
theorem cnt_far (m : Nat → Option Int) (k : Nat) (v : Int) : ∀ n, n ≤ k → cntN (updN m k v) n = cntN m n
  | 0, _ => rfl
  | n + 1, h => by unfold cntN; rw [cnt_far m k v n (by omega), updN_other (by omega)]
theorem cnt_upd (m : Nat → Option Int) (k : Nat) (v : Int) : ∀ n, k < n → cntN (updN m k v) n = if (m k).isSome = true then cntN m n else cntN m n + 1
  | 0, h => by omega
  | n + 1, h => by
    show cntN (updN m k v) n + (if (updN m k v n).isSome = true then 1 else 0) = if (m k).isSome = true then cntN m n + (if (m n).isSome = true then 1 else 0) else cntN m n + (if (m n).isSome = true then 1 else 0) + 1
    by_cases e : k = n
    · subst e
      rw [cnt_far m k v k (Nat.le_refl _), updN_same]
      cases (m k).isSome <;> simp
    · rw [cnt_upd m k v n (by omega), updN_other (Ne.symm e)]
      cases (m k).isSome <;> cases (m n).isSome <;> simp
/-- block mb is a map of the numbers m, all below N -/
def MapN (w : World) (mb N : Nat) (m : Nat → Option Int) : Prop := ∃ D : DataW Unit, w.ownsMap Tryd.prog 3 (plainElem Tryd.prog 3) mb (cntN m N) D ∧ Maps.size D = cntN m N ∧ ∀ x : Nat, x < N → Maps.has D (keyI x) = (m x).isSome ∧ D.atKey (keyI x) (.lit (.int .i64 0)) = .lit (.int .i64 ((m x).getD 0))
theorem cnt_none : ∀ n, cntN (fun _ => none) n = 0
  | 0 => rfl
  | n + 1 => by unfold cntN; rw [cnt_none n]; rfl
theorem MapN.new (w : World) (N : Nat) : MapN (w.alloc (.map #[] 0)) w.heap.size N (fun _ => none) := by
  refine ⟨.map [], ?_, (cnt_none N).symm, fun x _ => ⟨rfl, rfl⟩⟩
  rw [cnt_none]
  exact World.ownsMap_made _ _ _ _
theorem MapN.keeps {w w' : World} {X : Nat → Prop} {mb N : Nat} {m : Nat → Option Int} (h : MapN w mb N m) (hk : Keeps w w' X) (hx : X mb) : MapN w' mb N m := by
  obtain ⟨D, ⟨es, clock, hb, h1⟩, h2⟩ := h
  exact ⟨D, ⟨es, clock, hk.at hx hb, h1⟩, h2⟩
theorem MapN.lt {w : World} {mb N : Nat} {m : Nat → Option Int} (h : MapN w mb N m) : mb < w.heap.size := by
  obtain ⟨D, h1, _⟩ := h
  exact h1.lt
theorem MapN.look {w : World} {mb N : Nat} {m : Nat → Option Int} (h : MapN w mb N m) {x : Nat} (hx : x < N) (hN : N ≤ 1048576) : (Instr.lookup 72 (.map (some mb)) (.int .i64 (x : Int)) false).run Tryd.prog w = .ok (.int .i64 ((m x).getD 0)) w := by
  obtain ⟨D, h1, h2, h3⟩ := h
  obtain ⟨c, hrun, hat, -⟩ := h1.lookup_int lawI Tryd.underlying72 Tryd.underlying3 (zeroI w) (keyI_of (x := x) (by omega))
  rw [(h3 x hx).2] at hat
  simp only [DataW.lit.injEq, Lit.int.injEq, true_and] at hat
  rw [hrun, hat]
theorem MapN.look_ok {w : World} {mb N : Nat} {m : Nat → Option Int} (h : MapN w mb N m) {x : Nat} (hx : x < N) (hN : N ≤ 1048576) : (Instr.lookup 72 (.map (some mb)) (.int .i64 (x : Int)) true).run Tryd.prog w = .ok (.tuple #[.int .i64 ((m x).getD 0), .bool (m x).isSome]) w := by
  obtain ⟨D, h1, h2, h3⟩ := h
  obtain ⟨v, ps, hrun, hv⟩ := h1.look_ok lawI Tryd.underlying72 (zeroI w) (plainElem_int Tryd.underlying3 (by decide)) (keyI_of (x := x) (by omega))
  obtain ⟨c, rfl, hc, -⟩ := plainElem_int_inv Tryd.underlying3 hv
  rw [(h3 x hx).2] at hc
  simp only [Prod.mk.injEq, DataW.lit.injEq, Lit.int.injEq, true_and] at hc
  rw [hrun, (h3 x hx).1, hc.1]
theorem MapN.store {w : World} {mb N : Nat} {m : Nat → Option Int} (h : MapN w mb N m) {x : Nat} (hx : x < N) (hN : N ≤ 1048576) {v : Int} (hv : -4611686018427387904 ≤ v ∧ v ≤ 4611686018427387904) :
    ∃ w', (Instr.mapUpdate 72 (.map (some mb)) (.int .i64 (x : Int)) (.int .i64 v)).run Tryd.prog w = .ok () w' ∧ MapN w' mb N (updN m x v) ∧ Keeps w w' (fun b => b ≠ mb) ∧ (∀ b o, w'.frozen? ⟨b, o, none⟩ = w.frozen? ⟨b, o, none⟩) ∧ w'.heap.size = w.heap.size := by
  obtain ⟨D, h1, h2, h3⟩ := h
  have hcl := cnt_le m N
  have hwv : (Lit.int .i64 v).wf = true := WalkArith.wf_i64 (by omega)
  obtain ⟨w', hrun, hown, hturn⟩ := h1.store lawI Tryd.underlying72 (by unfold maxLen; omega) (keyI_of (x := x) (by omega)) (plainElem_int Tryd.underlying3 hwv)
  have htidy := h1.tidy lawI
  have hkey : WideAt.IsKeyLit (keyI x) := by unfold keyI WideAt.IsKeyLit; trivial
  have hsz := Maps.size_put (k := keyI x) htidy (.lit (.int .i64 v))
  have hcnt := cnt_upd m x v N hx
  have e : Maps.size (D.put (keyI x) (.lit (.int .i64 v))) = cntN (updN m x v) N := by
    rw [hsz, (h3 x hx).1, hcnt, h2]
  have hg := hturn.grown
  refine ⟨w', hrun, ⟨_, ?_, e, fun y hy => ?_⟩, ⟨hg.size, fun b hb hne => hg.block b hb (fun e => hne (Option.some.inj e)), hg.os, hg.tape, hg.output⟩, fun b o => hturn.frozen _, ?_⟩
  · obtain ⟨es, clock, hb, F, _, hD⟩ := hown
    refine ⟨es, clock, hb, F, ?_, hD⟩
    rw [← e, hD]
    simp [Maps.size, length_sorted]
  · by_cases hxy : y = x
    · subst hxy
      rw [Maps.has_put_same htidy.isMap hkey, Maps.atKey_put_same htidy.isMap hkey, updN_same]
      exact ⟨rfl, rfl⟩
    · rw [Maps.has_put_other (keyI_ne hxy), Maps.atKey_put_other (keyI_ne hxy), updN_other hxy]
      exact h3 y hy
  · obtain ⟨es, clock, es', clock', hb, rfl⟩ := hturn
    simp [ChangeMaps.setBlock]
end Go.Proofs.YtpkdiciinhjfjaaDoor

/- sexp: fold's closures: enter. -/
namespace Go.Proofs.YtpkdiciinhjfjaaDoor
open Go.RowKit Mth

/-- what lies in memory while fold walks -/
structure FolI (w0 : World) (tv : Value) (a1 a2 a3 : Nat) (N : Nat) (w : World) (s : (Nat → Option Int) × Bool) (F : Nat → Prop) : Prop where
  l : w.heap[w0.heap.size]? = some (.cells #[tv] 22 (0, 0))
  r : w.heap[w0.heap.size + 1]? = some (.cells #[.func (.func a1) #[] #[], .func (.func a2) #[] #[], .func (.func a3) #[] #[]] 52 (0, 0))
  m : MapN w (w0.heap.size + 2) N s.1
  v : w.heap[w0.heap.size + 3]? = some (.cells #[.map (some (w0.heap.size + 2))] 72 (0, 0))
  b : w.heap[w0.heap.size + 4]? = some (.cells #[.bool s.2] 4 (0, 0))
  below : Below w0.heap.size w0 w
  f : ∀ b, F b ↔ b < w0.heap.size + 5
/-- the rule's value -/
def ruleV (a1 a2 a3 : Nat) : Value := .agg #[.func (.func a1) #[] #[], .func (.func a2) #[] #[], .func (.func a3) #[] #[]]
/-- begin's contract, whatever the rule -/
def BegC (base : Nd → Int) (T : List Nd) (tv : Value) (a1 a2 a3 : Nat) : Prop := ∀ (k : Nat) (hk : k < T.length) (w : World), SxL w tv T → LexW w →
  Calls Tryd.prog 27 #[ruleV a1 a2 a3, tv, .int .i64 (k : Int)] w fun e w' => BegO T[k] k (base T[k]) e ∧ Below w.heap.size w w'
theorem entF_known {base : Nd → Int} {T : List Nd} {s : (Nat → Option Int) × Bool} {n : Nat} (h : (s.1 n).isSome = true ∨ s.2 = false) : entF base T s n = (false, s) := if_pos h
theorem entF_new {base : Nd → Int} {T : List Nd} {s : (Nat → Option Int) × Bool} {n : Nat} (h : ¬ ((s.1 n).isSome = true ∨ s.2 = false)) (hn : n < T.length) (hs : SndN T[n] n) : entF base T s n = (true, (updN s.1 n (base T[n]), true)) := by
  unfold entF; rw [if_neg h, List.getElem?_eq_getElem hn]; exact if_pos hs
theorem entF_bad {base : Nd → Int} {T : List Nd} {s : (Nat → Option Int) × Bool} {n : Nat} (h : ¬ ((s.1 n).isSome = true ∨ s.2 = false)) (hn : n < T.length) (hs : ¬ SndN T[n] n) : entF base T s n = (false, (updN s.1 n 0, false)) := by
  unfold entF; rw [if_neg h, List.getElem?_eq_getElem hn]; exact if_neg hs
set_option maxHeartbeats 4000000 in
set_option maxRecDepth 100000 in
theorem enterF_known (base : Nd → Int) (T : List Nd) (tv : Value) (a1 a2 a3 n : Nat) (w0 w : World) (s : (Nat → Option Int) × Bool) (F : Nat → Prop) (h : FolI w0 tv a1 a2 a3 T.length w s F) (hn : n < T.length) (hN : T.length ≤ 1048576) (hk : (s.1 n).isSome = true ∨ s.2 = false) :
    Calls Tryd.prog 26 #[.int .i64 (n : Int), .pointer (some ⟨w0.heap.size + 3, 0, none⟩), .pointer (some ⟨w0.heap.size + 4, 0, none⟩), .pointer (some ⟨w0.heap.size + 1, 0, none⟩), .pointer (some ⟨w0.heap.size, 0, none⟩)] w fun e w' => e = .returned (.bool (entF base T s n).1) ∧ w' = w := by
  have E := Lib.hid (entF_known (base := base) (T := T) hk)
  have c3 := blk1s h.v
  have c4 := blk1s h.b
  have hl := h.m.look_ok hn hN
  generalize (s.1 n).getD 0 = c at *
  obtain ⟨m, b⟩ := s
  clear h
  replace hk : (m n).isSome = true ∨ b = false := hk
  generalize (m n).isSome = kn at *
  rcases hk with rfl | rfl
  · go_enter Tryd.func26, Tryd.ntmps26
    go_wp2
    go_ret
    exact ⟨by rw [E.out]; rfl, rfl⟩
  · cases kn
    · go_enter Tryd.func26, Tryd.ntmps26
      go_wp2
      go_ret
      exact ⟨by rw [E.out]; rfl, rfl⟩
    · go_enter Tryd.func26, Tryd.ntmps26
      go_wp2
      go_ret
      exact ⟨by rw [E.out]; rfl, rfl⟩
/-- a step of fold: the state behind it, and what stays -/
def FolO (w0 : World) (tv : Value) (a1 a2 a3 N : Nat) (w w' : World) (s : (Nat → Option Int) × Bool) : Prop := (∀ F : Nat → Prop, (∀ b, F b ↔ b < w0.heap.size + 5) → FolI w0 tv a1 a2 a3 N w' s F) ∧ Keeps w w' (fun b => ¬ b < w0.heap.size + 5)
theorem folo_of {w0 w w' : World} {tv : Value} {a1 a2 a3 N : Nat} {s s' : (Nat → Option Int) × Bool} {F : Nat → Prop} (h : FolI w0 tv a1 a2 a3 N w s F) (hk : Keeps w w' (fun b => b ≠ w0.heap.size + 2 ∧ b ≠ w0.heap.size + 4)) (hm : MapN w' (w0.heap.size + 2) N s'.1) (hb : w'.heap[w0.heap.size + 4]? = some (.cells #[.bool s'.2] 4 (0, 0))) : FolO w0 tv a1 a2 a3 N w w' s' := by
  have hlt := h.m.lt
  refine ⟨fun F' hF => ⟨hk.at ⟨by omega, by omega⟩ h.l, hk.at ⟨by omega, by omega⟩ h.r, hm, hk.at ⟨by omega, by omega⟩ h.v, hb, h.below.trans (hk.below (by omega) (fun b hb => ⟨by omega, by omega⟩)), hF⟩, hk.weak (fun b _ hb => ⟨by omega, by omega⟩)⟩
theorem folo_fin {w0 w w1 w2 : World} {tv : Value} {a1 a2 a3 N : Nat} {s : (Nat → Option Int) × Bool} {m2 : Nat → Option Int} {ok x : Bool} {F : Nat → Prop} (h : FolI w0 tv a1 a2 a3 N w s F) (hb1 : Below w.heap.size w w1) (hk2 : Keeps w1 w2 (fun b => b ≠ w0.heap.size + 2)) (hm2 : MapN w2 (w0.heap.size + 2) N m2)
    (hb4 : w2.heap[w0.heap.size + 4]? = some (.cells #[.bool x] 4 (0, 0))) : FolO w0 tv a1 a2 a3 N w (w2.setCell ⟨w0.heap.size + 4, 0, none⟩ (.bool ok)) (m2, ok) := by
  refine folo_of h ((((Keeps.of_below hb1).weak (fun _ _ _ => trivial)).on hk2 (fun b _ hb => hb.1)).on Keeps.set (fun b _ hb => hb.2)) (hm2.keeps Keeps.set (by omega)) (heap_setCell_row hb4 rfl)
set_option maxHeartbeats 8000000 in
set_option maxRecDepth 100000 in
theorem enterF_new (base : Nd → Int) (T : List Nd) (tv : Value) (a1 a2 a3 n : Nat) (w0 w : World) (s : (Nat → Option Int) × Bool) (F : Nat → Prop) (h : FolI w0 tv a1 a2 a3 T.length w s F) (ht : SxL w0 tv T) (hL : LexW w0) (BC : BegC base T tv a1 a2 a3) (hn : n < T.length) (hN : T.length ≤ 1048576) (hk : ¬ ((s.1 n).isSome = true ∨ s.2 = false))
    (hv : SndN T[n] n → -4611686018427387904 ≤ base T[n] ∧ base T[n] ≤ 4611686018427387904) :
    Calls Tryd.prog 26 #[.int .i64 (n : Int), .pointer (some ⟨w0.heap.size + 3, 0, none⟩), .pointer (some ⟨w0.heap.size + 4, 0, none⟩), .pointer (some ⟨w0.heap.size + 1, 0, none⟩), .pointer (some ⟨w0.heap.size, 0, none⟩)] w fun e w' => e = .returned (.bool (entF base T s n).1) ∧ FolO w0 tv a1 a2 a3 T.length w w' (entF base T s n).2 := by
  have H := Lib.hid h
  have c3 := blk1s h.v
  have c4 := blk1s h.b
  have c0 := blk1s h.l
  obtain ⟨⟨r0, r1, r2⟩, -, -⟩ := blk3s h.r
  have hl := h.m.look_ok hn hN
  obtain ⟨m, b⟩ := s
  have hkn : (m n).isSome = false := by
    cases e : (m n).isSome with
    | false => rfl
    | true => exact absurd (.inl e) hk
  have hbt : b = true := by
    cases b with
    | true => rfl
    | false => exact absurd (.inr rfl) hk
  subst hbt
  replace hl : (Instr.lookup 72 (.map (some (w0.heap.size + 2))) (.int .i64 (n : Int)) true).run Tryd.prog w = .ok (.tuple #[.int .i64 ((m n).getD 0), .bool (m n).isSome]) w := hl
  rw [hkn] at hl
  generalize (m n).getD 0 = c at hl
  obtain ⟨v, ok, hv2, HE, BB⟩ : ∃ (v : Int) (ok : Bool), (-4611686018427387904 ≤ v ∧ v ≤ 4611686018427387904) ∧ Hid (entF base T (m, true) n = (ok, (updN m n v, ok))) ∧
      Hid (∀ W, Below w.heap.size w W → Calls Tryd.prog 27 #[.agg #[.func (.func a1) #[] #[], .func (.func a2) #[] #[], .func (.func a3) #[] #[]], tv, .int .i64 (n : Int)] W fun e w' => e = .returned (.tuple #[.int .i64 v, .bool ok]) ∧ Below w.heap.size w w') := by
    by_cases hs : SndN T[n] n
    · refine ⟨base T[n], true, hv hs, Lib.hid (entF_new hk hn hs), Lib.hid fun W hW => ?_⟩
      refine (BC n hn W ((ht.below h.below).below hW) ((hL.below h.below).below hW)).mono ?_
      rintro e w' ⟨⟨_, he⟩ | ⟨h1, _⟩, hb⟩
      · exact ⟨he, belowT hW hb⟩
      · exact absurd hs h1
    · refine ⟨0, false, by omega, Lib.hid (entF_bad hk hn hs), Lib.hid fun W hW => ?_⟩
      refine (BC n hn W ((ht.below h.below).below hW) ((hL.below h.below).below hW)).mono ?_
      rintro e w' ⟨⟨h1, _⟩ | ⟨_, he⟩, hb⟩
      · exact absurd h1 hs
      · exact ⟨he, belowT hW hb⟩
  have HV := Lib.hid hv2
  have hsz4 : w0.heap.size + 4 < w.heap.size := (Array.getElem?_eq_some_iff.1 h.b).1
  have HM := Lib.hid h.m
  have B0 := Lib.hid (Below.refl w.heap.size w)
  obtain ⟨ao, cap, rfl⟩ := ht.shape
  clear h ht hL BC hkn hv hk hv2
  go_enter Tryd.func26, Tryd.ntmps26
  go_wp2_with fail
  go_region_with (go_at_call 27; refine Calls.mono (BB.out _ ?_) ?_; (first | exact B0.out | exact B0.out.drew | exact B0.out.drew.drew); rintro e w1 ⟨rfl, hb1⟩; have c3' := cellT hb1 c3 (by omega); obtain ⟨w2, hrun, hm2, hk2, hf2, hs2⟩ := (HM.out.keeps (Keeps.of_below hb1) trivial).store hn hN HV.out; have HM2 := Lib.hid hm2; have HK2 := Lib.hid hk2; have HB1 := Lib.hid hb1; have hb4 := hk2.at (b := w0.heap.size + 4) (by omega) (hb1.block _ hsz4 |>.trans H.out.b); have c4' := blk1s hb4; have f4 := frozen_of_row w2 (w0.heap.size + 4) 0 _ _ hb4; have HB4 := Lib.hid hb4; clear hm2 hk2 hf2 hs2 hb1 hb4)
  all_goals
    go_wp2
    go_ret
    exact ⟨by rw [HE.out]; rfl, by rw [HE.out]; exact folo_fin H.out HB1.out HK2.out HM2.out HB4.out⟩
end Go.Proofs.YtpkdiciinhjfjaaDoor

/- sexp: fold's closures: leave. -/
namespace Go.Proofs.YtpkdiciinhjfjaaDoor
open Go.RowKit Mth

theorem MapN.drew {w : World} {mb N : Nat} {m : Nat → Option Int} (h : MapN w mb N m) : MapN w.drew mb N m := by
  obtain ⟨D, h1, h2⟩ := h
  exact ⟨D, h1.drew, h2⟩
theorem keeps_drew (w : World) (X : Nat → Prop) : Keeps w w.drew X := (Keeps.of_below (Below.refl w.heap.size w).drew).weak (fun _ _ _ => trivial)
/-- more's contract, where numbers stay in their range -/
def MoreC (more : Int → Int → Int) (okV : Nat → Int → Prop) (a3 N : Nat) : Prop := ∀ (n k : Nat) (a b : Int) (w : World), k < n → n < N → okV n a → okV k b →
  Calls Tryd.prog a3 #[.int .i64 a, .int .i64 b] w fun e w' => e = .returned (.int .i64 (more a b)) ∧ w' = w
theorem take_fold {ks : List Int} {f : (Nat → Option Int) → Int → (Nat → Option Int)} {m : Nat → Option Int} {j : Nat} (h : j < ks.length) : (ks.take (j + 1)).foldl f m = f ((ks.take j).foldl f m) ks[j] := by
  rw [List.take_succ_eq_append_getElem h, List.foldl_append]; rfl
set_option maxHeartbeats 8000000 in
set_option maxRecDepth 100000 in
theorem leaveF_any {base : Nd → Int} {more : Int → Int → Int} {okV : Nat → Int → Prop} {T : List Nd} (R : Rng base more okV T) (tv : Value) (a1 a2 a3 n : Nat) (w0 w : World) (s : (Nat → Option Int) × Bool) (F : Nat → Prop) (h : FolI w0 tv a1 a2 a3 T.length w s F) (ht : SxL w0 tv T) (MC : MoreC more okV a3 T.length)
    (hcf : ∀ args W, (callFunc a3 args).run Tryd.prog W = .ok (.enter a3 args) W) (hv : ∀ x v, x < T.length → okV x v → -4611686018427387904 ≤ v ∧ v ≤ 4611686018427387904) (ok : okLF T okV s n) (hN : T.length ≤ 1048576) (hkl : (kidsF T (n : Int)).length ≤ 4611686018427387903)
    (hbq : ∀ b off m cap, tv = .slice (some ⟨b, off, none⟩) m cap → b < w0.heap.size) :
    Calls Tryd.prog 28 #[.int .i64 (n : Int), .pointer (some ⟨w0.heap.size, 0, none⟩), .pointer (some ⟨w0.heap.size + 1, 0, none⟩), .pointer (some ⟨w0.heap.size + 3, 0, none⟩)] w fun e w' => e = .returned (.tuple #[]) ∧ FolO w0 tv a1 a2 a3 T.length w w' (lvF more T s n) := by
  obtain ⟨⟨hn, hs⟩, hsn, hok⟩ := ok
  have H := Lib.hid h
  have HT := Lib.hid ht
  have c0 := blk1s h.l
  have KO := Lib.hid (kidsOf_is tv T (n : Int) w (ht.below h.below))
  have HKS := Lib.hid (kidsF_lt hn hs)
  have HLV : Hid (lvF more T s n = ((kidsF T (n : Int)).foldl (addK more n) s.1, s.2)) := Lib.hid rfl
  have HALL : Hid (∀ j, AllOk T okV (((kidsF T (n : Int)).take j).foldl (addK more n) s.1)) := Lib.hid (fun j => (addK_fold R hn _ s.1 (fun x hx => kidsF_lt hn hs x (List.mem_of_mem_take hx)) hsn hok).1)
  have HTAB : Hid (∀ wr, Below w0.heap.size w0 wr → SxL wr tv T) := Lib.hid (fun wr hb => ht.below hb)
  have HBQ := Lib.hid hbq
  have hsz : w0.heap.size + 4 < w.heap.size := (Array.getElem?_eq_some_iff.1 h.b).1
  have HF0 := Lib.hid h.f
  obtain ⟨ao, cap, rfl⟩ := ht.shape
  clear h ht hs hsn hok hbq
  generalize hks : kidsF T (n : Int) = ks at *
  have HE := Lib.hid hks
  clear hks
  go_enter Tryd.func28, Tryd.ntmps28
  go_wp2_with fail
  refine KO.out.mono ?_
  rintro e w1 ⟨kv, rfl, hkv, hko, rfl⟩
  obtain ⟨ka, kc, rfl⟩ := hkv.shape
  have HKO := Lib.hid hko
  clear hkv hko KO
  go_wp2_with fail
  go_loopw [6, 11] (fun _ i wr => ∃ j : Nat, j ≤ ks.length ∧ i = .int .i64 (j : Int) ∧ FolI w0 (.slice ao T.length cap) a1 a2 a3 T.length wr ((ks.take j).foldl (addK more n) s.1, s.2) F ∧ Keeps w1 wr (fun b => b ≠ w0.heap.size + 2)) (fun _ i _ => ks.length - (intOf i).toNat)
  case atStart => exact ⟨0, Nat.zero_le _, rfl, H.out, Keeps.refl _ _⟩
  case round =>
    obtain ⟨j, hj, rfl, hi, hk⟩ := hrel
    have HI := Lib.hid hi; have HK := Lib.hid hk
    clear hi hk
    by_cases hlt : j < ks.length
    · have hx := HKS.out ks[j] (List.getElem_mem hlt)
      have HX := Lib.hid (List.getElem?_eq_getElem hlt)
      have TF := Lib.hid (take_fold (f := addK more n) (m := s.1) hlt)
      obtain ⟨k, hkx⟩ : ∃ k : Nat, ks[j] = (k : Int) := ⟨ks[j].toNat, by omega⟩
      rw [hkx] at hx HX TF
      have HIN : Hid (InL wr (.slice ka ks.length kc) ks) := Lib.hid (HE.out ▸ HKO.out.keep HK.out (fun b off m cap e => by have := HBQ.out b off m cap e; omega) (HTAB.out _ HI.out.below))
      obtain ⟨ao1, cap1, ee, hc1⟩ := HIN.out
      obtain ⟨b1, o1, x1, -, hcc1⟩ := hc1 (fun e => by rw [e] at hlt; simp at hlt)
      have c1' := hcc1 j _ HX.out
      simp only [Value.slice.injEq] at ee
      obtain ⟨rfl, -, -⟩ := ee
      subst x1
      have d0 := blk1s HI.out.l
      have d3 := blk1s HI.out.v
      obtain ⟨⟨r0, r1, r2⟩, -, -⟩ := blk3s HI.out.r
      have hl1 := HI.out.m.drew.look hn hN
      have hl2 := HI.out.m.drew.look (x := k) (by omega) hN
      have HA := HALL.out j
      have ov1 := okGet R HA n
      have ov2 := okGet R HA k
      have hmr := hv n _ hn (R.more n k _ _ (by omega) ov1 ov2)
      have MM := Lib.hid (MC n k _ _ wr.drew (by omega) hn ov1 ov2)
      have HADD : Hid (addK more n ((ks.take j).foldl (addK more n) s.1) (k : Int) = updN ((ks.take j).foldl (addK more n) s.1) n (more ((((ks.take j).foldl (addK more n) s.1) n).getD 0) ((((ks.take j).foldl (addK more n) s.1) k).getD 0))) := Lib.hid rfl
      have HMD := Lib.hid HI.out.m.drew
      generalize (ks.take j).foldl (addK more n) s.1 = m at *
      generalize (m n).getD 0 = p at *
      generalize (m k).getD 0 = q at *
      generalize more p q = y at *
      obtain ⟨w2, hrun, hm2, hk2, hf2, hs2⟩ := HMD.out.store hn hN hmr
      have HM2 := Lib.hid hm2; have HK2 := Lib.hid hk2
      clear hcc1 hc1 HA ov1 ov2 hm2 hk2 hf2 hs2 hx hkx hmr
      go_wp2_with fail
      go_still_tail 11, (by kernel_rfl)
      still_call MM.out
      refine wpStill_nil ?_
      go_wp2
      go_roundw
      case rel => exact ⟨j + 1, by omega, by go_num, by rw [TF.out, HADD.out]; exact (folo_of (s' := (updN m n y, s.2)) HI.out (((keeps_drew _ _).on HK2.out (fun b _ hb => hb.1))) HM2.out (HK2.out.at (by omega) HI.out.b)).1 F HF0.out, HK.out.on ((keeps_drew _ _).on HK2.out (fun b _ hb => hb)) (fun b _ hb => hb)⟩
      case measure => simp [intOf]; omega
    · obtain rfl : j = ks.length := by omega
      have e1 : (ks.take ks.length).foldl (addK more n) s.1 = ks.foldl (addK more n) s.1 := by rw [List.take_length]
      have HI2 : Hid (FolI w0 (.slice ao T.length cap) a1 a2 a3 T.length wr (ks.foldl (addK more n) s.1, s.2) F) := Lib.hid (e1 ▸ HI.out)
      go_wp2
      go_end0
      refine ⟨rfl, ?_⟩
      rw [HLV.out]
      exact ⟨fun F' hF => ⟨HI2.out.l, HI2.out.r, HI2.out.m, HI2.out.v, HI2.out.b, HI2.out.below, hF⟩, HK.out.weak (fun b _ hb => by omega)⟩
end Go.Proofs.YtpkdiciinhjfjaaDoor

/- sexp: fold: a node's number, or its fault. -/
namespace Go.Proofs.YtpkdiciinhjfjaaDoor
open Go.RowKit Mth

/-- what is asked of a rule and of a table -/
structure FolC (base : Nd → Int) (more : Int → Int → Int) (okV : Nat → Int → Prop) (T : List Nd) (tv : Value) (a1 a2 a3 : Nat) : Prop where
  R : Rng base more okV T
  BC : BegC base T tv a1 a2 a3
  MC : MoreC more okV a3 T.length
  cf : ∀ args W, (callFunc a3 args).run Tryd.prog W = .ok (.enter a3 args) W
  val : ∀ x v, x < T.length → okV x v → -4611686018427387904 ≤ v ∧ v ≤ 4611686018427387904
  N : T.length ≤ 1048576
  K : ∀ nd ∈ T, nd.kids.length ≤ 4611686018427387903
theorem kidsF_len {T : List Nd} (HK : ∀ nd ∈ T, nd.kids.length ≤ 4611686018427387903) {n : Nat} (hn : n < T.length) : (kidsF T (n : Int)).length ≤ 4611686018427387903 := by
  rw [kidsF_at hn]; split
  · exact HK _ (List.getElem_mem hn)
  · simp
theorem fold_vis {base : Nd → Int} {more : Int → Int → Int} {okV : Nat → Int → Prop} {T : List Nd} {tv : Value} {a1 a2 a3 : Nat} (C : FolC base more okV T tv a1 a2 a3) (w0 : World) (ht : SxL w0 tv T) (hL : LexW w0) (hbq : ∀ b off m cap, tv = .slice (some ⟨b, off, none⟩) m cap → b < w0.heap.size) :
    Vis (entF base T) (lvF more T) (okEF T okV) (okLF T okV) (FolI w0 tv a1 a2 a3 T.length) tv T 26 28 #[.pointer (some ⟨w0.heap.size + 3, 0, none⟩), .pointer (some ⟨w0.heap.size + 4, 0, none⟩), .pointer (some ⟨w0.heap.size + 1, 0, none⟩), .pointer (some ⟨w0.heap.size, 0, none⟩)]
      #[.pointer (some ⟨w0.heap.size, 0, none⟩), .pointer (some ⟨w0.heap.size + 1, 0, none⟩), .pointer (some ⟨w0.heap.size + 3, 0, none⟩)] where
  cfe := fun args W => enters_of Tryd.func26 (by kernel_rfl) rfl args W
  cfl := fun args W => enters_of Tryd.func28 (by kernel_rfl) rfl args W
  keep := fun w w' s F h hk => by
    have hf := h.f
    have hlt : w0.heap.size + 4 < w.heap.size := (Array.getElem?_eq_some_iff.1 h.b).1
    exact ⟨hk.at ((hf _).2 (by omega)) h.l, hk.at ((hf _).2 (by omega)) h.r, h.m.keeps hk ((hf _).2 (by omega)), hk.at ((hf _).2 (by omega)) h.v, hk.at ((hf _).2 (by omega)) h.b, h.below.trans (hk.below (by omega) (fun b hb => (hf _).2 (by omega))), hf⟩
  tab := fun w s F h => ht.below h.below
  tabF := fun w s F b off n cap h e => (h.f _).2 (by have := hbq _ _ _ _ e; omega)
  lt := fun w s F h b hb => by
    have hlt : w0.heap.size + 4 < w.heap.size := (Array.getElem?_eq_some_iff.1 h.b).1
    have := (h.f b).1 hb
    omega
  enter := fun w s F n h ok => by
    by_cases hk : (s.1 n).isSome = true ∨ s.2 = false
    · refine (enterF_known base T tv a1 a2 a3 n w0 w s F h ok.1 C.N hk).mono ?_
      rintro e w' ⟨he, rfl⟩
      exact ⟨F, he, by rw [entF_known hk]; exact h, Keeps.refl _ _, fun b hb => .inl hb⟩
    · have hn : n < T.length := ok.1
      refine (enterF_new base T tv a1 a2 a3 n w0 w s F h ht hL C.BC hn C.N hk (fun hs => C.val n _ hn (C.R.base n hn hs))).mono ?_
      rintro e w' ⟨he, h1, h2⟩
      exact ⟨F, he, h1 F h.f, h2.weak (fun b _ hb hlt => hb ((h.f b).2 hlt)), fun b hb => .inl hb⟩
  leave := fun w s F n h ok => by
    refine (leaveF_any C.R tv a1 a2 a3 n w0 w s F h ht C.MC C.cf C.val ok C.N (kidsF_len C.K ok.1.choose) hbq).mono ?_
    rintro e w' ⟨he, h1, h2⟩
    exact ⟨F, he, h1 F h.f, h2.weak (fun b _ hb hlt => hb ((h.f b).2 hlt)), fun b hb => .inl hb⟩
set_option maxRecDepth 100000 in
theorem fold_out (T : List Nd) (tv : Value) (a1 a2 a3 : Nat) (r : Int) (w : World) (ht : SxL w tv T) (hr : ¬ (0 ≤ r ∧ r < T.length)) :
    Calls Tryd.prog 13 #[tv, .int .i64 r, ruleV a1 a2 a3] w fun e w' => e = .returned (.tuple #[.int .i64 0, .int .i64 1]) ∧ Below w.heap.size w w' := by
  obtain ⟨W1, eW1, g1, bW1, -⟩ := allocS w (Obj.cells #[tv] 22)
  obtain ⟨W, eW, g2, bW, -⟩ := allocS W1 (Obj.cells #[.func (.func a1) #[] #[], .func (.func a2) #[] #[], .func (.func a3) #[] #[]] 52)
  have BW := Lib.hid (belowT bW1 bW)
  have HA := Lib.hid (has_any tv T r W (ht.below BW.out))
  rw [has_no hr] at HA
  have c0 := blk1s (blkT bW g1)
  obtain ⟨ao, cap, rfl⟩ := ht.shape
  clear ht g1 g2 bW1 bW hr
  unfold ruleV
  go_enter Tryd.func13, Tryd.ntmps13
  go_wp2_with fail
  try rw [eW1]
  try rw [eW]
  refine HA.out.mono ?_
  rintro e w1 ⟨rfl, rfl⟩
  go_wp2
  go_ret2
  exact ⟨rfl, BW.out⟩
/-- what fold says of a node -/
def FoldO (base : Nd → Int) (more : Int → Int → Int) (T : List Nd) (k : Nat) (e : Ending) : Prop := (Sound T k ∧ e = .returned (.tuple #[.int .i64 (numF base more T k), .int .i64 0])) ∨ (¬ Sound T k ∧ e = .returned (.tuple #[.int .i64 0, .int .i64 73]))
set_option maxHeartbeats 4000000 in
set_option maxRecDepth 100000 in
theorem fold_in {base : Nd → Int} {more : Int → Int → Int} {okV : Nat → Int → Prop} {T : List Nd} {tv : Value} {a1 a2 a3 : Nat} (C : FolC base more okV T tv a1 a2 a3) (k : Nat) (w : World) (ht : SxL w tv T) (hL : LexW w) (hk : k < T.length) (hk2 : k < 1048576) :
    Calls Tryd.prog 13 #[tv, .int .i64 (k : Int), ruleV a1 a2 a3] w fun e w' => FoldO base more T k e ∧ Below w.heap.size w w' := by
  have hbq : ∀ b off m cap, tv = .slice (some ⟨b, off, none⟩) m cap → b < w.heap.size := fun b off m cap e => by
    obtain ⟨ao, cap', e', h⟩ := ht
    obtain ⟨b', off', e2, hl, _⟩ := h (fun e => by rw [e] at hk; simp at hk)
    rw [e] at e'
    simp only [Value.slice.injEq] at e'
    rw [← e'.1] at e2
    simp only [Option.some.injEq, Addr.mk.injEq] at e2
    omega
  obtain ⟨s1, j, hg, hend⟩ := fold_run C.R C.K hk hk2
  have HEND := Lib.hid hend
  obtain ⟨W1, eW1, g1, bW1, -⟩ := allocS w (Obj.cells #[tv] 22)
  obtain ⟨W, eW, g2, bW, -⟩ := allocS W1 (Obj.cells #[.func (.func a1) #[] #[], .func (.func a2) #[] #[], .func (.func a3) #[] #[]] 52)
  have BW := Lib.hid (belowT bW1 bW)
  have z1 : W1.heap.size = w.heap.size + 1 := by rw [← eW1]; simp
  have z2 : W.heap.size = w.heap.size + 2 := by rw [← eW]; simp; omega
  rw [z1] at g2
  have HA := Lib.hid (has_any tv T (k : Int) W (ht.below BW.out))
  rw [has_yes hk] at HA
  obtain ⟨W3, eW3⟩ : ∃ W3, W.alloc (.map #[] 0) = W3 := ⟨_, rfl⟩
  have b3 : Below W.heap.size W W3 := eW3 ▸ (Below.refl _ _).alloc (Nat.le_refl _) _
  have m3 : MapN W3 (w.heap.size + 2) T.length (fun _ => none) := by rw [← z2, ← eW3]; exact MapN.new W T.length
  have z3 : W3.heap.size = w.heap.size + 3 := by rw [← eW3]; simp; omega
  obtain ⟨W4, eW4, g4, b4, -⟩ := allocS W3 (Obj.cells #[.map (some (w.heap.size + 2))] 72)
  have z4 : W4.heap.size = w.heap.size + 4 := by rw [← eW4]; simp; omega
  obtain ⟨W5, eW5, g5, b5, -⟩ := allocS W4 (Obj.cells #[.bool true] 4)
  rw [z3] at g4; rw [z4] at g5
  have HI : Hid (FolI w tv a1 a2 a3 T.length W5 (fun _ => none, true) (fun b => b < w.heap.size + 5)) := Lib.hid ⟨blkT b5 (blkT b4 (blkT b3 (blkT bW g1))), blkT b5 (blkT b4 (blkT b3 g2)), (m3.keeps (Keeps.of_below b4) trivial).keeps (Keeps.of_below b5) trivial, blkT b5 g4, g5, belowT BW.out (belowT b3 (belowT b4 b5)), fun b => Iff.rfl⟩
  have WK := Lib.hid (walk_any (fold_vis C w ht hL hbq) W5 k j (fun _ => none, true) s1 _ HI.out ⟨hk, fun x v h => by cases h⟩ hg)
  have hmm := fun (t : TypeId) (u : World) => run_makeMap (P := Tryd.prog) t u
  have c0 := blk1s HI.out.l
  have c0W := blk1s (blkT bW g1)
  have hN := C.N
  obtain ⟨ao, cap, rfl⟩ := ht.shape
  clear ht hg hend g1 g2 bW1 bW b3 m3 g4 b4 g5 b5 C hbq
  unfold ruleV
  go_enter Tryd.func13, Tryd.ntmps13
  go_wp2_with fail
  try rw [eW1]
  try rw [eW]
  refine HA.out.mono ?_
  rintro e w1 ⟨rfl, rfl⟩
  go_wp2_with fail
  refine WK.out.mono ?_
  rintro e w6 ⟨rfl, F6, hi6, -, -⟩
  have c4 := blk1s hi6.b
  have c3 := blk1s hi6.v
  have hl := hi6.m.look hk hN
  have HB := Lib.hid hi6.below
  obtain ⟨m, b⟩ := s1
  replace c4 : w6.cell? ⟨w.heap.size + 4, 0, none⟩ = some (.bool b) := c4
  clear WK hi6 c0 c0W hmm
  rcases HEND.out with ⟨h2, hs, hv⟩ | ⟨h2, hns⟩
  · have HS := Lib.hid hs
    replace hv : m k = some (numF base more T k) := hv
    replace hl : (Instr.lookup 72 (.map (some (w.heap.size + 2))) (.int .i64 (k : Int)) false).run Tryd.prog w6 = .ok (.int .i64 ((m k).getD 0)) w6 := hl
    rw [hv, Option.getD_some] at hl
    obtain rfl : b = true := h2
    have HO : Hid (FoldO base more T k (.returned (.tuple #[.int .i64 (numF base more T k), .int .i64 0]))) := Lib.hid (.inl ⟨hs, rfl⟩)
    generalize numF base more T k = y at *
    clear HEND hv hs
    go_wp2
    go_ret2
    exact ⟨HO.out, HB.out⟩
  · have HS := Lib.hid hns
    obtain rfl : b = false := h2
    clear HEND hns hl
    go_wp2
    go_ret2
    exact ⟨.inr ⟨HS.out, rfl⟩, HB.out⟩
end Go.Proofs.YtpkdiciinhjfjaaDoor

/- sexp: Depth; the two rules as fold wants them. -/
namespace Go.Proofs.YtpkdiciinhjfjaaDoor
open Go.RowKit Mth

def moreD (a b : Int) : Int := max a (b + 1)
def moreS (a b : Int) : Int := min (a + b) 1048577
/-- bounds of a table -/
structure TabC (T : List Nd) : Prop where
  N : T.length ≤ 1048576
  tok : ∀ nd ∈ T, nd.tok.t.size ≤ 1048576
  kids : ∀ nd ∈ T, nd.kids.length ≤ 1048576
def okD (x : Nat) (v : Int) : Prop := 0 ≤ v ∧ v ≤ (x : Int) + 1
def okS (_ : Nat) (v : Int) : Prop := 0 ≤ v ∧ v ≤ 1048580
theorem good_sz {x : Tk} (h : Good x) : ((wrB x).size : Int) ≤ 1048576 := by
  obtain ⟨_, _, _, h, _⟩ := h
  omega
theorem rngD (T : List Nd) : Rng baseD moreD okD T where
  zero := fun x => ⟨by omega, by omega⟩
  base := fun n h hs => by unfold baseD okD; split <;> omega
  more := fun n k a b hk ha hb => by unfold okD moreD at *; omega
theorem rngS {T : List Nd} (C : TabC T) : Rng baseS moreS okS T where
  zero := fun x => ⟨by omega, by omega⟩
  base := fun n h hs => by
    have hk := C.kids _ (List.getElem_mem h)
    unfold baseS okS
    rcases hs with ⟨k1, hg, -⟩ | ⟨k2, -⟩
    · rw [if_pos k1]; have := good_sz hg; omega
    · rw [if_neg (by omega)]; unfold szList; omega
  more := fun n k a b hk ha hb => by unfold okS moreS at *; omega
theorem folD {T : List Nd} (C : TabC T) (tv : Value) : FolC baseD moreD okD T tv 50 51 52 where
  R := rngD T
  BC := fun k hk w ht hL => beginD_any tv T k w ht hk hL (C.tok _ (List.getElem_mem hk)) (C.kids _ (List.getElem_mem hk))
  MC := fun n k a b w hk hn ha hb => by
    have := C.N
    unfold okD at hb
    exact dMore_any a b w (by omega)
  cf := fun args W => enters_of Tryd.func52 (by kernel_rfl) rfl args W
  val := fun x v hx h => by
    have := C.N
    unfold okD at h
    omega
  N := C.N
  K := fun nd h => by have := C.kids nd h; omega
theorem folS {T : List Nd} (C : TabC T) (tv : Value) : FolC baseS moreS okS T tv 30 31 32 where
  R := rngS C
  BC := fun k hk w ht hL => beginS_any tv T k w ht hk hL (C.tok _ (List.getElem_mem hk)) (C.kids _ (List.getElem_mem hk))
  MC := fun n k a b w hk hn ha hb => by
    unfold okS at ha hb
    exact sMore_any a b w (by omega)
  cf := fun args W => enters_of Tryd.func32 (by kernel_rfl) rfl args W
  val := fun x v _ h => by unfold okS at h; omega
  N := C.N
  K := fun nd h => by have := C.kids nd h; omega
/-- Depth: an error where there is no such node, else the depth of a sound node -/
def DepthO (T : List Nd) (r : Int) (e : Ending) : Prop := (¬ (0 ≤ r ∧ r < T.length) ∧ e = .returned (.tuple #[.int .i64 0, .int .i64 1])) ∨ (∃ k : Nat, r = k ∧ k < T.length ∧ FoldO baseD moreD T k e)
set_option maxRecDepth 100000 in
theorem depth_any {T : List Nd} (C : TabC T) (tv : Value) (r : Int) (w : World) (ht : SxL w tv T) (hL : LexW w) : Calls Tryd.prog 12 #[tv, .int .i64 r] w fun e w' => DepthO T r e ∧ Below w.heap.size w w' := by
  have HT := Lib.hid ht; have HLW := Lib.hid hL; have HC := Lib.hid C
  have FC : Hid (∀ W, Below w.heap.size w W → Calls Tryd.prog 13 #[tv, .int .i64 r, ruleD] W fun e w' => ∃ x y, e = .returned (.tuple #[.int .i64 x, .int .i64 y]) ∧ Hid (DepthO T r e) ∧ Below W.heap.size W w') := Lib.hid fun W hW => by
    by_cases hr : 0 ≤ r ∧ r < T.length
    · obtain ⟨k, rfl⟩ : ∃ k : Nat, r = k := ⟨r.toNat, by omega⟩
      have hk : k < T.length := by omega
      refine (fold_in (folD C tv) k W (ht.below hW) (hL.below hW) hk (by have := C.N; omega)).mono ?_
      rintro e w' ⟨h, hb⟩
      have hd : DepthO T (k : Int) e := .inr ⟨k, rfl, hk, h⟩
      rcases h with ⟨_, rfl⟩ | ⟨_, rfl⟩
      · exact ⟨_, _, rfl, Lib.hid hd, hb⟩
      · exact ⟨_, _, rfl, Lib.hid hd, hb⟩
    · refine (fold_out T tv 50 51 52 r W (ht.below hW) hr).mono ?_
      rintro e w' ⟨rfl, hb⟩
      exact ⟨_, _, rfl, Lib.hid (.inl ⟨hr, rfl⟩), hb⟩
  have DC := Lib.hid (depths_any w)
  obtain ⟨ao, cap, rfl⟩ := ht.shape
  clear ht hL C
  go_enter Tryd.func12, Tryd.ntmps12
  go_wp2_with fail
  refine DC.out.mono ?_
  rintro e w1 ⟨rfl, hb1⟩
  have HB1 := Lib.hid hb1
  clear hb1
  unfold ruleD at FC ⊢
  go_wp2_with fail
  refine (FC.out _ HB1.out).mono ?_
  rintro e w2 ⟨x, y, rfl, hd, hb2⟩
  have HB2 := Lib.hid (belowT HB1.out hb2)
  clear hb2
  go_wp2
  go_ret2
  exact ⟨hd.out, HB2.out⟩
end Go.Proofs.YtpkdiciinhjfjaaDoor
