/- lexis: tokens with blanks and comments behind them, in plain mathematics. -/
import Derived.Test.YtlgcmpiobglbbaaDoorKX
set_option linter.unusedVariables false
set_option linter.unusedSimpArgs false
namespace Go.Proofs.YtlgcmpiobglbbaaDoor
open Go.RowKit Mth

def cmO : Option ByteArray → List UInt8
  | none => []
  | some s => 59 :: (s.data.toList ++ [10])
def blP (x : Tk) (o : Option ByteArray) : List UInt8 := 32 :: 9 :: (wrT x ++ (13 :: 10 :: cmO o))
def blL : List Tk → List ByteArray → List UInt8
  | [], _ => []
  | x :: r, S => blP x S.head? ++ blL r S.tail
theorem bl_snoc : ∀ (L : List Tk) (S : List ByteArray) (x : Tk), blL (L ++ [x]) S = blL L S ++ blP x S[L.length]?
  | [], S, x => by cases S <;> simp [blL]
  | y :: L, S, x => by
    rw [List.cons_append, blL, blL, bl_snoc L S.tail x, List.append_assoc]
    congr 2
    cases S <;> simp
theorem bl_next {L : List Tk} {S : List ByteArray} {i : Nat} {x : Tk} (h : L[i]? = some x) : blL (L.take (i + 1)) S = blL (L.take i) S ++ blP x S[i]? := by
  have hlt := (List.getElem?_eq_some_iff.1 h).1
  rw [List.take_add_one, h, Option.toList_some, bl_snoc, List.length_take, Nat.min_eq_left (by omega)]
def noNl (s : ByteArray) : Prop := ∀ c ∈ s.data.toList, c.toNat ≠ 10
theorem noNl_of {s : ByteArray} (h : ∀ i, i < s.size → cb s i ≠ 10) : noNl s := fun c hc => by
  obtain ⟨j, hj, e⟩ := List.mem_iff_getElem.1 hc
  have hl := len_data s
  have h1 := h j (by omega)
  have h2 := cb_list s.data.toList j hj
  rw [str_self, List.getD_eq_getElem?_getD, List.getElem?_eq_getElem hj, Option.getD_some, e] at h2
  rw [← h2]; exact h1
theorem bl_chain {s : ByteArray} : ∀ (L : List Tk) (S : List ByteArray) (p p0 : Nat), (∀ x ∈ L, Good x) → (∀ (j : Nat) (t : ByteArray), j < L.length → S[j]? = some t → noNl t) → Byt s p (blL L S) → p + (blL L S).length = s.size → skipF s p0 = skipF s p → Chain s p0 L
  | [], S, p, p0, _, _, _, h, hk => .nil p0 (by rw [hk, skip_end (by simp [blL] at h; omega)]; simp [blL] at h; omega)
  | x :: r, S, p, p0, hg, hn, hb, hz, hk => by
    have hgx := hg x (List.mem_cons_self ..)
    rw [blL] at hb hz
    obtain ⟨hb1, hb2⟩ := byt_app.1 hb
    rw [List.length_append] at hz
    obtain ⟨c0, c1, hb3⟩ := hb1
    obtain ⟨hb4, hb5⟩ := byt_app.1 hb3
    obtain ⟨c2, c3, hb6⟩ := hb5
    have hlen : (blP x S.head?).length = 2 + (wrT x).length + 2 + (cmO S.head?).length := by
      unfold blP; simp only [List.length_cons, List.length_append]; omega
    rw [hlen] at hb2 hz
    have d0 : cb s p = 32 := c0
    have d1 : cb s (p + 1) = 9 := c1
    have d2 : cb s (p + 2 + (wrT x).length) = 13 := c2
    have d3 : cb s (p + 2 + (wrT x).length + 1) = 10 := c3
    have hf := good_first (q := p + 2) hgx hb4
    have hsk : skipF s p = p + 2 := by
      rw [skip_blank (by omega) (by rw [d0]; rfl), skip_blank (by omega) (by rw [d1]; rfl)]
      exact skip_here hf.2.2.1 hf.2.2.2
    refine .cons p0 (p + 2) x r (hk.trans hsk) hgx hb4 (by omega) (fun kn _ => .inr (.inr (.inr (.inr ⟨by rw [d2]; rfl, fun _ => by rw [d2]; decide⟩)))) ?_
    have hsk2 : skipF s (p + 2 + (wrT x).length) = skipF s (p + 2 + (wrT x).length + 1 + 1) := by
      rw [skip_blank (by omega) (by rw [d2]; rfl), skip_blank (by omega) (by rw [d3]; rfl)]
    refine bl_chain r S.tail (p + (2 + (wrT x).length + 2 + (cmO S.head?).length)) (p + 2 + (wrT x).length) (fun y hy => hg y (List.mem_cons_of_mem _ hy)) (fun j t hj ht => hn (j + 1) t (by simp; omega) (by cases S <;> simp_all)) hb2 (by omega) (hsk2.trans ?_)
    cases hS : S.head? with
    | none => simp only [cmO, List.length_nil]; congr 1; omega
    | some t =>
      rw [hS] at hb6 hz
      have hnt : noNl t := hn 0 t (by simp) (by cases S <;> simp_all)
      obtain ⟨e0, hb7⟩ := hb6
      obtain ⟨hb8, e1, _⟩ := byt_app.1 hb7
      have hcl : (cmO (some t)).length = 1 + t.data.toList.length + 1 := by simp only [cmO, List.length_cons, List.length_append, List.length_nil]; omega
      rw [hcl] at hz ⊢
      obtain ⟨P, hP⟩ : ∃ P, p + 2 + (wrT x).length + 1 + 1 = P := ⟨_, rfl⟩
      rw [hP]
      have e0 : cb s P = 59 := by rw [← hP]; exact e0
      have e1 : cb s (P + 1 + t.data.toList.length) = 10 := by rw [← hP]; exact e1
      have hb8 : Byt s (P + 1) t.data.toList := by rw [← hP]; exact hb8
      have f0 : cb s P = 59 := e0
      have f1 : cb s (P + 1 + t.data.toList.length) = 10 := e1
      have hPz : P + 1 + t.data.toList.length < s.size := by omega
      rw [skip_cmt (by omega) f0, cmt_of (s := s) s.size (p := P + 1) (q := P + 1 + t.data.toList.length) (by omega) (by omega) (by omega) (fun i i1 i2 => by
        have h1 := byt_at hb8 (j := i - (P + 1)) (by omega)
        rw [show P + 1 + (i - (P + 1)) = i by omega] at h1
        rw [h1]
        have hj : i - (P + 1) < t.data.toList.length := by omega
        rw [List.getD_eq_getElem?_getD, List.getElem?_eq_getElem hj, Option.getD_some]
        exact hnt _ (List.getElem_mem hj)) (.inr f1), skip_blank (by omega) (by rw [f1]; rfl)]
      congr 1; omega
theorem scan_bl {L : List Tk} {S : List ByteArray} (hg : ∀ x ∈ L, Good x) (hn : ∀ (j : Nat) (t : ByteArray), j < L.length → S[j]? = some t → noNl t) :
    ∃ M N, scanF ⟨(catL none L).toArray⟩ 0 = .ok M ∧ scanF ⟨(blL L S).toArray⟩ 0 = .ok N ∧ SameL false M N := by
  have h := cat_chain (s := ⟨(catL none L).toArray⟩) L none 0 hg (byt_self _) (by rw [size_list, Nat.zero_add])
  obtain ⟨M, hM, hm⟩ := chain_scan h
  have h' := bl_chain (s := ⟨(blL L S).toArray⟩) L S 0 0 hg hn (byt_self _) (by rw [size_list, Nat.zero_add]) rfl
  obtain ⟨N, hN, hn'⟩ := chain_scan h'
  exact ⟨M, N, hM, hN, sameL_of_map (hn'.trans hm.symm)⟩
/-- a list of texts in memory -/
def StL (w : World) (v : Value) (S : List ByteArray) : Prop := ∃ ao cap, v = .slice ao S.length cap ∧ (S ≠ [] → ∃ b off, ao = some ⟨b, off, none⟩ ∧ b < w.heap.size ∧ ∀ i x, S[i]? = some x → w.cell? ⟨b, off + i, none⟩ = some (.string x))
theorem StL.below {w w' : World} {v : Value} {S : List ByteArray} (h : StL w v S) (hb : Below w.heap.size w w') : StL w' v S := by
  obtain ⟨ao, cap, h1, h2⟩ := h
  refine ⟨ao, cap, h1, fun hn => ?_⟩
  obtain ⟨b, off, e, hlt, hc⟩ := h2 hn
  exact ⟨b, off, e, Nat.lt_of_lt_of_le hlt hb.size, fun i x hx => (hb.cell (p := ⟨b, off + i, none⟩) hlt).trans (hc i x hx)⟩
theorem bl_cat {T X t : ByteArray} {x : Tk} {D : List UInt8} (hT : T = ⟨D.toArray⟩) (hX : X = ⟨(wrT x).toArray⟩) :
    T ++ ⟨#[32, 9]⟩ ++ X ++ ⟨#[13, 10]⟩ = ⟨(D ++ blP x none).toArray⟩ ∧ T ++ ⟨#[32, 9]⟩ ++ X ++ ⟨#[13, 10]⟩ ++ ⟨#[59]⟩ ++ t ++ ⟨#[10]⟩ = ⟨(D ++ blP x (some t)).toArray⟩ := by
  have a1 : (⟨#[32, 9]⟩ : ByteArray) = ⟨([32, 9] : List UInt8).toArray⟩ := rfl
  have a2 : (⟨#[13, 10]⟩ : ByteArray) = ⟨([13, 10] : List UInt8).toArray⟩ := rfl
  have a3 : (⟨#[59]⟩ : ByteArray) = ⟨([59] : List UInt8).toArray⟩ := rfl
  have a4 : (⟨#[10]⟩ : ByteArray) = ⟨([10] : List UInt8).toArray⟩ := rfl
  have a5 : t = ⟨(t.data.toList).toArray⟩ := (str_self t).symm
  constructor
  · rw [hT, hX, a1, a2, str_cat, str_cat, str_cat]
    simp [blP, cmO]
  · rw [hT, hX, a1, a2, a3, a4]
    conv => lhs; rw [a5]
    rw [str_cat, str_cat, str_cat, str_cat, str_cat, str_cat]
    simp [blP, cmO]
end Go.Proofs.YtlgcmpiobglbbaaDoor
