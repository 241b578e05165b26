/- 9UA 9UB. -/
import Derived.Test.YtehdfkafdpfdnaaGreatDoorUMA
import Derived.Test.YtehdfkafdpfdnaaGreatDoorUTT
import Derived.Test.YtehdfkafdpfdnaaGreatDoorUTX
set_option linter.unusedVariables false
set_option linter.unusedSimpArgs false
/- Digits with noughts ahead: mathematics of bits.Text. -/
namespace Go.Proofs.YtehdfkafdpfdnaaGreatDoor.Mth

theorem digs_len (b : Nat) : ∀ w c, (digs b w c).length = w
  | 0, _ => rfl
  | w + 1, c => by
    show (digs b w (c / b) ++ [dch (c % b)]).length = _
    rw [List.length_append, digs_len b w]; rfl
theorem digs_cons {b : Nat} : ∀ (k n : Nat), digs b (k + 1) n = dch (n / b ^ k % b) :: digs b k n
  | 0, n => by
    show [] ++ [dch (n % b)] = [dch (n / b ^ 0 % b)]
    rw [Nat.pow_zero, Nat.div_one]; rfl
  | k + 1, n => by
    show digs b (k + 1) (n / b) ++ [dch (n % b)] = _
    rw [digs_cons k (n / b), Nat.div_div_eq_div_mul, ← Nat.pow_succ']
    rfl
theorem digs_mem {b : Nat} (hb : 0 < b) : ∀ (k n x : Nat), x ∈ digs b k n → ∃ d, d < b ∧ x = dch d
  | 0, _, _, h => by simp [digs] at h
  | k + 1, n, x, h => by
    rcases List.mem_append.1 (show x ∈ digs b k (n / b) ++ [dch (n % b)] from h) with h | h
    · exact digs_mem hb k _ x h
    · rw [List.mem_singleton] at h
      exact ⟨n % b, Nat.mod_lt _ hb, h⟩
theorem digs_lt {b : Nat} (hb : 0 < b) (h16 : b ≤ 16) (k n x : Nat) (h : x ∈ digs b k n) : x < 256 := by
  obtain ⟨d, hd, rfl⟩ := digs_mem hb k n x h
  exact dch_lt (by omega)
theorem mod_cons (n b k : Nat) : n / b % b ^ k * b + n % b = n % b ^ (k + 1) := by
  rw [Nat.pow_succ', Nat.mod_mul, Nat.mul_comm]; omega
end Go.Proofs.YtehdfkafdpfdnaaGreatDoor.Mth

/- bits.Text. -/
namespace Go.Proofs.YtehdfkafdpfdnaaGreatDoor
open Go.RowKit Mth

/-- a vector as it is written -/
def txB (c : Nat) (l : List Nat) : ByteArray := ⟨(toBytes (35 :: c :: l)).toArray⟩
theorem txB_size (c : Nat) (l : List Nat) : (txB c l).size = l.length + 2 := by unfold txB; rw [str_len]; rfl
set_option maxHeartbeats 4000000 in
set_option maxRecDepth 100000 in
theorem padded_any (l : List Nat) (many : Nat) (hl : l.length ≤ many) (hm : many ≤ 4096) (w : World) :
    Calls Tryz.prog 15 #[.string ⟨(toBytes l).toArray⟩, .int .i64 (many : Int)] w fun e w' => e = .returned (.string ⟨(toBytes (pad many l)).toArray⟩) ∧ Below w.heap.size w w' := by
  have hsz : (⟨(toBytes l).toArray⟩ : ByteArray).size = l.length := str_len l
  have hs2 : (toBytes l).length = l.length := length_toBytes l
  have RP : Hid (∀ w1, Calls Tryz.prog 35 #[.string ⟨#[48]⟩, .int .i64 ((many - l.length : Nat) : Int)] w1 fun e w' => e = .returned (.string ⟨(toBytes (List.replicate (many - l.length) 48)).toArray⟩) ∧ Below w1.heap.size w1 w') := Lib.hid (fun w1 => repeat_any _ w1 (by omega))
  have hsub : (many : Int) - (l.length : Int) = ((many - l.length : Nat) : Int) := by omega
  have hrl : (⟨(toBytes (List.replicate (many - l.length) 48)).toArray⟩ : ByteArray).size = many - l.length := by rw [str_len, List.length_replicate]
  have FIN : Hid ((⟨(toBytes (List.replicate (many - l.length) 48)).toArray⟩ : ByteArray) ++ ⟨(toBytes l).toArray⟩ = ⟨(toBytes (pad many l)).toArray⟩) := Lib.hid (by
    apply ByteArray.ext
    simp [toBytes, pad])
  generalize (⟨(toBytes (pad many l)).toArray⟩ : ByteArray) = R at *
  generalize (⟨(toBytes (List.replicate (many - l.length) 48)).toArray⟩ : ByteArray) = P at *
  have hps : P.size ≤ 4096 := by omega
  have hss : (⟨(toBytes l).toArray⟩ : ByteArray).size ≤ 4096 := by omega
  clear hrl hs2
  generalize (⟨(toBytes l).toArray⟩ : ByteArray) = S at *
  go_enter Tryz.func15, Tryz.ntmps15
  go_wp2_with fail
  try rw [hsz]
  try rw [hsub]
  refine (RP.out _).mono ?_
  rintro e w1 ⟨rfl, hb1⟩
  have B1 := Lib.hid hb1
  clear hb1
  go_wp2
  go_ret
  exact ⟨congrArg (fun z => Ending.returned (Value.string z)) FIN.out, B1.out⟩
theorem ntext2 (v : Value) (xs : List Nat) (w : World) (hs : Sl w .u64 v xs) (hl : Lim B64 xs) (hz : TZ w) (hn : val B64 xs < Big) :
    Calls Tryz.prog 14 #[v, .int .i64 2] w fun e w' => e = .returned (.tuple #[.string ⟨(toBytes (numeral 2 (val B64 xs))).toArray⟩, .int .i64 0]) ∧ Below w.heap.size w w' := by
  have h := textS_num (b := 2) (w := 64) (by omega) (by omega) b64_2 (.inl rfl) hl
  have g := tx_fine (b := ((2 : Nat) : Int)) (n := val B64 xs) (.inl rfl) (by omega)
  refine (text2 v xs w hs hl hz).mono fun e w' ⟨h1, h2⟩ => ⟨?_, h2⟩
  rw [h1, h.1, h.2, g.1, g.2]; rfl
theorem ntext16 (v : Value) (xs : List Nat) (w : World) (hs : Sl w .u64 v xs) (hl : Lim B64 xs) (hz : TZ w) (hn : val B64 xs < Big) :
    Calls Tryz.prog 14 #[v, .int .i64 16] w fun e w' => e = .returned (.tuple #[.string ⟨(toBytes (numeral 16 (val B64 xs))).toArray⟩, .int .i64 0]) ∧ Below w.heap.size w w' := by
  have h := textS_num (b := 16) (w := 16) (by omega) (by omega) b64_16 (.inr (.inr rfl)) hl
  have g := tx_fine (b := ((16 : Nat) : Int)) (n := val B64 xs) (.inr (.inr rfl)) (by omega)
  refine (text16 v xs w hs hl hz).mono fun e w' ⟨h1, h2⟩ => ⟨?_, h2⟩
  rw [h1, h.1, h.2, g.1, g.2]; rfl
end Go.Proofs.YtehdfkafdpfdnaaGreatDoor
