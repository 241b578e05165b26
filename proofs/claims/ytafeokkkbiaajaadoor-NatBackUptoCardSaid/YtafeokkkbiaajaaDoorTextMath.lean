/- Numerals, in plain mathematics. -/
import Derived.Test.YtafeokkkbiaajaaDoorDigits
import Derived.Test.YtafeokkkbiaajaaDoorShiftMath
namespace Go.Proofs.YtafeokkkbiaajaaDoor.Mth

/-- the numeral of n in base b: no noughts ahead -/
def numeral (b n : Nat) : List Nat := dgs b (n + 1) n
theorem dgs_more {b : Nat} (hb : 2 ≤ b) : ∀ (f g n : Nat), n < b ^ f → n < b ^ g → 0 < f → 0 < g → dgs b f n = dgs b g n
  | 0, _, _, _, _, h, _ => by omega
  | _ + 1, 0, _, _, _, _, h => by omega
  | f + 1, g + 1, n, h1, h2, _, _ => by
    by_cases h : n < b
    · rw [dgs_low h, dgs_low h]
    · rw [dgs_step h, dgs_step h]
      have e1 : dv n b < b ^ f := by
        unfold dv
        rw [Nat.div_lt_iff_lt_mul (by omega), ← Nat.pow_succ]; exact h1
      have e2 : dv n b < b ^ g := by
        unfold dv
        rw [Nat.div_lt_iff_lt_mul (by omega), ← Nat.pow_succ]; exact h2
      have e3 : 0 < dv n b := by unfold dv; exact Nat.div_pos (by omega) (by omega)
      have f0 : 0 < f := by
        rcases Nat.eq_zero_or_pos f with h0 | h0
        · rw [h0] at e1; simp at e1; omega
        · exact h0
      have g0 : 0 < g := by
        rcases Nat.eq_zero_or_pos g with h0 | h0
        · rw [h0] at e2; simp at e2; omega
        · exact h0
      rw [dgs_more hb f g _ e1 e2 f0 g0]
theorem lt_pow_self {b n : Nat} (hb : 2 ≤ b) : n < b ^ (n + 1) := Nat.lt_of_lt_of_le (Nat.lt_two_pow_self (n := n)) (Nat.le_trans (Nat.pow_le_pow_right (by omega) (Nat.le_succ n)) (Nat.pow_le_pow_left hb _))
theorem dgs_numeral {b f n : Nat} (hb : 2 ≤ b) (h : n < b ^ f) (hf : 0 < f) : dgs b f n = numeral b n := dgs_more hb _ _ _ h (lt_pow_self hb) hf (by omega)
theorem numeral_low {b n : Nat} (h : n < b) : numeral b n = [dch n] := dgs_low h
theorem numeral_step {b n : Nat} (hb : 2 ≤ b) (h : ¬ n < b) : numeral b n = numeral b (n / b) ++ [dch (n % b)] := by
  unfold numeral
  rw [dgs_step h]
  congr 1
  have h1 : n / b < n := Nat.div_lt_self (by omega) hb
  have h2 : n / b < b ^ n := Nat.lt_of_lt_of_le (lt_pow_self hb (n := n / b)) (Nat.pow_le_pow_right (by omega) h1)
  exact dgs_more hb n (n / b + 1) (n / b) h2 (lt_pow_self hb) (by omega) (Nat.succ_pos _)
theorem numeral_len {b f n : Nat} (hb : 2 ≤ b) (h : n < b ^ f) (hf : 0 < f) : (numeral b n).length ≤ f := by
  rw [← dgs_numeral hb h hf]; exact length_dgs (by omega) f n
/-- wd digits, noughts ahead -/
def digs (b : Nat) : Nat → Nat → List Nat
  | 0, _ => []
  | w + 1, c => digs b w (c / b) ++ [dch (c % b)]
theorem dch_zero : dch 0 = 48 := rfl
theorem digs_zero {b : Nat} (hb : 2 ≤ b) : ∀ w, digs b w 0 = List.replicate w 48
  | 0 => rfl
  | w + 1 => by
    simp only [digs, Nat.zero_div, Nat.zero_mod, dch_zero, digs_zero hb w]
    rw [List.replicate_succ', ]
theorem pad_snoc {w x : Nat} {l : List Nat} : pad (w + 1) (l ++ [x]) = pad w l ++ [x] := by
  simp [pad, Nat.add_sub_add_right]
theorem pad_numeral {b : Nat} (hb : 2 ≤ b) : ∀ (w c : Nat), 0 < w → c < b ^ w → pad w (numeral b c) = digs b w c
  | 0, _, h, _ => by omega
  | w + 1, c, _, hc => by
    by_cases h : c < b
    · rw [numeral_low h]
      have e : pad (w + 1) [dch c] = pad w [] ++ [dch c] := pad_snoc (l := [])
      rw [e]
      simp only [digs, Nat.div_eq_of_lt h, Nat.mod_eq_of_lt h, digs_zero hb]
      simp [pad]
    · rw [numeral_step hb h, pad_snoc]
      have e1 : c / b < b ^ w := by rw [Nat.div_lt_iff_lt_mul (by omega), ← Nat.pow_succ]; exact hc
      have w0 : 0 < w := by
        rcases Nat.eq_zero_or_pos w with h0 | h0
        · rw [h0] at hc; simp at hc; omega
        · exact h0
      rw [pad_numeral hb w _ w0 e1]
      rfl
theorem numeral_split {b : Nat} (hb : 2 ≤ b) : ∀ (w c v : Nat), 0 < v → c < b ^ w → numeral b (c + b ^ w * v) = numeral b v ++ digs b w c
  | 0, c, v, hv, hc => by
    have : c = 0 := by simpa using hc
    subst this
    simp [digs]
  | w + 1, c, v, hv, hc => by
    have hp : b ≤ b ^ (w + 1) := by
      rw [Nat.pow_succ]
      exact Nat.le_mul_of_pos_left b (Nat.pow_pos (by omega))
    have hge : ¬ c + b ^ (w + 1) * v < b := by
      have : b ^ (w + 1) * 1 ≤ b ^ (w + 1) * v := Nat.mul_le_mul_left _ hv
      omega
    have e0 : c + b ^ (w + 1) * v = c + b * (b ^ w * v) := by rw [Nat.pow_succ, Nat.mul_comm (b ^ w) b, Nat.mul_assoc]
    rw [numeral_step hb hge, e0, Nat.add_mul_div_left _ _ (by omega), Nat.add_mul_mod_self_left]
    have e1 : c / b < b ^ w := by rw [Nat.div_lt_iff_lt_mul (by omega), ← Nat.pow_succ]; exact hc
    rw [numeral_split hb w (c / b) v hv e1, List.append_assoc]
    rfl
/-- chunks, one behind the other -/
theorem jnd_numeral {b w : Nat} (hb : 2 ≤ b) (hw : 0 < w) {D : Nat → List Nat} (hD : ∀ c, c < b ^ w → D c = numeral b c) : ∀ (cs : List Nat), Lim (b ^ w) cs → Top cs → 0 < cs.length → jnd D w cs = numeral b (val (b ^ w) cs)
  | [], _, _, h => by simp at h
  | c :: r, hl, ht, _ => by
    obtain ⟨h1, h2⟩ := lim_cons.1 hl
    simp only [jnd, val]
    by_cases hr : r = []
    · subst hr
      simp only [if_true, jnd, val, Nat.mul_zero, Nat.add_zero, List.nil_append]
      exact hD c h1
    · rw [if_neg hr]
      have hrp : 0 < r.length := List.length_pos_iff.2 hr
      have ht2 : Top r := by
        unfold Top at ht ⊢
        simp only [tlen, List.length_cons] at ht
        split at ht
        · split at ht <;> omega
        · omega
      have hv : 0 < val (b ^ w) r := Nat.lt_of_lt_of_le (Nat.pow_pos (Nat.pow_pos (by omega))) (val_ge_top ht2 hrp)
      rw [jnd_numeral hb hw hD r h2 ht2 hrp, hD c h1, pad_numeral hb w c hw h1, numeral_split hb w c _ hv h1]

/-- what TextH's loop holds: n is still to be written, S has been -/
def TxI (b N n : Nat) (S : List Nat) : Prop := (n ≠ 0 → N ≠ 0 ∧ numeral b n ++ S = numeral b N) ∧ (n = 0 → (N = 0 ∧ S = []) ∨ (N ≠ 0 ∧ S = numeral b N))
theorem txI_start (b N : Nat) : TxI b N N [] := ⟨fun h => ⟨h, by simp⟩, fun h => .inl ⟨h, rfl⟩⟩
theorem txI_step {b N n : Nat} {S : List Nat} (hb : 2 ≤ b) (h : TxI b N n S) (hn : n ≠ 0) : TxI b N (n / b) (dch (n % b) :: S) := by
  obtain ⟨h1, h2⟩ := h.1 hn
  by_cases hlt : n < b
  · rw [numeral_low hlt] at h2
    rw [Nat.div_eq_of_lt hlt, Nat.mod_eq_of_lt hlt]
    exact ⟨fun h => absurd rfl h, fun _ => .inr ⟨h1, h2⟩⟩
  · rw [numeral_step hb hlt, List.append_assoc] at h2
    have : 0 < n / b := Nat.div_pos (by omega) (by omega)
    exact ⟨fun _ => ⟨h1, h2⟩, fun h => by omega⟩
theorem txI_end {b N : Nat} {S : List Nat} (hb : 2 ≤ b) (h : TxI b N 0 S) : (S = [] → numeral b N = [48]) ∧ (S ≠ [] → S = numeral b N) := by
  rcases h.2 rfl with ⟨h1, h2⟩ | ⟨h1, h2⟩
  · subst h1
    exact ⟨fun _ => numeral_low (by omega), fun h => absurd h2 h⟩
  · refine ⟨fun h => ?_, fun _ => h2⟩
    exfalso
    rw [h2] at h
    by_cases hlt : N < b
    · rw [numeral_low hlt] at h; cases h
    · rw [numeral_step hb hlt] at h; simp at h
/-- after the halves from k on have been divided -/
structure DhT (xs Q : List Nat) (d k r : Nat) : Prop where
  len : Q.length = xs.length
  lim : Lim B16 Q
  rlt : r < d
  eq : val B16 (xs.drop k) = val B16 (Q.drop k) * d + r
theorem dhT_zero {xs : List Nat} {d : Nat} (hd : 0 < d) : DhT xs (List.replicate xs.length 0) d xs.length 0 :=
  ⟨by simp, fun j => by rw [getD_replicate]; have := B16_pos; omega, hd, by rw [List.drop_of_length_le (Nat.le_refl _), List.drop_of_length_le (by simp)]; simp [val]⟩
theorem dhT_step {xs Q : List Nat} {d k r : Nat} (h : DhT xs Q d (k + 1) r) (lx : Lim B16 xs) (hk : k < xs.length) :
    DhT xs (Q.set k ((r * 65536 + xs.getD k 0) / d)) d k ((r * 65536 + xs.getD k 0) % d) := by
  have hl := h.len
  have hr := h.rlt
  have hx := lx k
  have hq : (r * 65536 + xs.getD k 0) / d < B16 := by
    rw [Nat.div_lt_iff_lt_mul (by omega)]
    have : (r + 1) * 65536 ≤ d * 65536 := Nat.mul_le_mul_right _ hr
    unfold B16 at *
    omega
  refine ⟨by rw [List.length_set, hl], lim_set h.lim hq _, Nat.mod_lt _ (by omega), ?_⟩
  have e1 := val_drop B16 xs k hk
  have e2 := val_drop B16 (Q.set k ((r * 65536 + xs.getD k 0) / d)) k (by rw [List.length_set]; omega)
  have e3 : (Q.set k ((r * 65536 + xs.getD k 0) / d)).drop (k + 1) = Q.drop (k + 1) := by
    apply list_congr
    · simp
    · intro j _
      rw [getD_drop, getD_drop, getD_set' _ _ _ _ (by omega), if_neg (by omega)]
  rw [getD_set' _ _ _ _ (by omega), if_pos rfl, e3] at e2
  rw [e1, e2, h.eq]
  have e4 := Nat.mod_add_div (r * 65536 + xs.getD k 0) d
  generalize xs.getD k 0 = x at *
  generalize (r * 65536 + x) / d = q at *
  generalize (r * 65536 + x) % d = m at *
  generalize val B16 (Q.drop (k + 1)) = V at *
  rw [Nat.add_mul, Nat.mul_add, Nat.mul_comm q d]
  have e5 : B16 * (V * d) = B16 * V * d := (Nat.mul_assoc _ _ _).symm
  rw [e5]
  unfold B16 at *
  omega
theorem dhT_end {xs Q : List Nat} {d r : Nat} (h : DhT xs Q d 0 r) : val B16 Q = val B16 xs / d ∧ r = val B16 xs % d := by
  have e := h.eq
  simp only [List.drop_zero] at e
  have hr := h.rlt
  rw [e, Nat.mul_comm, Nat.mul_add_div (by omega), Nat.div_eq_of_lt hr, Nat.mul_add_mod, Nat.mod_eq_of_lt hr]
  exact ⟨by omega, rfl⟩
theorem numeral_lt {b : Nat} (hb : 2 ≤ b) (hb2 : b ≤ 36) (n : Nat) : ∀ x ∈ numeral b n, x < 256 := dgs_lt hb hb2 _ _
end Go.Proofs.YtafeokkkbiaajaaDoor.Mth
