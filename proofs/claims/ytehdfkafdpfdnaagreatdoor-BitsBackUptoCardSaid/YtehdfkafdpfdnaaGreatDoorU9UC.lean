/- What bits.Parse says of a written vector. -/
import Derived.Test.YtehdfkafdpfdnaaGreatDoorUNU1
import Derived.Test.YtehdfkafdpfdnaaGreatDoorUNP9
import Derived.Test.YtehdfkafdpfdnaaGreatDoorUBackMath
set_option linter.unusedVariables false
set_option linter.unusedSimpArgs false
namespace Go.Proofs.YtehdfkafdpfdnaaGreatDoor
open Go.RowKit Mth

theorem plv_digs {b : Nat} (hb : 0 < b) (h16 : b ≤ 16) : ∀ k n, plv b (digs b k n) = n % b ^ k
  | 0, n => by
    show plv b [] = n % b ^ 0
    rw [Nat.pow_zero, Nat.mod_one]; rfl
  | k + 1, n => by
    show plv b (digs b k (n / b) ++ [dch (n % b)]) = _
    have := Nat.mod_lt n hb
    rw [plv_snoc, plv_digs hb h16 k, dgv_dch (by omega), mod_cons]
theorem digs_dgv {b : Nat} (hb : 0 < b) (h16 : b ≤ 16) (k n x : Nat) (h : x ∈ digs b k n) : dgv x < b := by
  obtain ⟨d, hd, rfl⟩ := digs_mem hb k n x h
  rw [dgv_dch (by omega)]; exact hd
theorem hasB (l : List Nat) : hasP (txB 98 l) preB = true := by
  show List.isPrefixOf _ _ = true
  show List.isPrefixOf [35, 98] ((35 : UInt8) :: (98 : UInt8) :: toBytes l) = true
  simp [List.isPrefixOf]
theorem hasBX (l : List Nat) : hasP (txB 120 l) preB = false := by
  show List.isPrefixOf [35, 98] ((35 : UInt8) :: (120 : UInt8) :: toBytes l) = false
  simp [List.isPrefixOf]
theorem hasX (l : List Nat) : hasP (txB 120 l) preX = true := by
  show List.isPrefixOf [35, 120] ((35 : UInt8) :: (120 : UInt8) :: toBytes l) = true
  simp [List.isPrefixOf]
theorem cutB (l : List Nat) : cutP (txB 98 l) preB = ⟨(toBytes l).toArray⟩ := by
  have h' : Lib.hasPrefix (txB 98 l).data.toList preB.data.toList = true := hasB l
  unfold cutP Lib.trimPrefix
  rw [if_pos h']
  rfl
theorem cutX (l : List Nat) : cutP (txB 120 l) preX = ⟨(toBytes l).toArray⟩ := by
  have h' : Lib.hasPrefix (txB 120 l).data.toList preX.data.toList = true := hasX l
  unfold cutP Lib.trimPrefix
  rw [if_pos h']
  rfl
theorem frs (x : Nat) (h1 : 1 ≤ x) (h2 : x ≤ 4096) (n : Nat) (hn : n < 2 ^ x) : frX (x : Int) = (x : Int) ∧ frE (x : Int) = 0 ∧ frN (x : Int) (n : Int) = n := by
  unfold frX frE frN
  rw [isW_nat h1 h2]
  exact ⟨rfl, rfl, by show vecN x (n : Int) = n; rw [vec_nat, Nat.mod_eq_of_lt hn]⟩
/-- both forms of a vector are read as that vector -/
theorem parse_b (wd n : Nat) (h1 : 1 ≤ wd) (h2 : wd ≤ 4096) (hn : n < 2 ^ wd) (w : World) : Calls Tryz.prog 9 #[.string (txB 98 (digs 2 wd n))] w fun e' w' => ResN w w' e' (wd : Int) 0 n := by
  have hlen := digs_len 2 wd n
  have hsz : (⟨(toBytes (digs 2 wd n)).toArray⟩ : ByteArray).size = wd := by rw [str_len, hlen]
  have hok : okD ⟨(toBytes (digs 2 wd n)).toArray⟩ 2 := okD_list (fun x hx => digs_lt (by omega) (by omega) _ _ x hx) (fun x hx => digs_dgv (by omega) (by omega) _ _ x hx) (fun e => by rw [e] at hlen; simp at hlen; omega)
  have hpv : pv ⟨(toBytes (digs 2 wd n)).toArray⟩ 2 (⟨(toBytes (digs 2 wd n)).toArray⟩ : ByteArray).size = n := by
    rw [pv_all (fun x hx => digs_lt (by omega) (by omega) _ _ x hx), plv_digs (by omega) (by omega), Nat.mod_eq_of_lt hn]
  refine parse9_b _ (by rw [txB_size, hlen]; omega) (hasB _) _ _ _ (fun w1 => ?_) w
  rw [cutB]
  have P := parsed_ok ⟨(toBytes (digs 2 wd n)).toArray⟩ 2 1 n (Or.inl rfl) (by omega) (by rw [hsz]; omega) hok hpv (two_big h2 |>.1 |> Nat.lt_trans hn) w1
  rw [hsz, show ((1 : Nat) : Int) * (wd : Int) = (wd : Int) by omega, (frs wd h1 h2 n hn).1, (frs wd h1 h2 n hn).2.1, (frs wd h1 h2 n hn).2.2] at P
  exact P
theorem parse_x (q n : Nat) (h1 : 1 ≤ q) (h2 : 4 * q ≤ 4096) (hn : n < 2 ^ (4 * q)) (w : World) : Calls Tryz.prog 9 #[.string (txB 120 (digs 16 q n))] w fun e' w' => ResN w w' e' ((4 * q : Nat) : Int) 0 n := by
  have hlen := digs_len 16 q n
  have hsz : (⟨(toBytes (digs 16 q n)).toArray⟩ : ByteArray).size = q := by rw [str_len, hlen]
  have hok : okD ⟨(toBytes (digs 16 q n)).toArray⟩ 16 := okD_list (fun x hx => digs_lt (by omega) (by omega) _ _ x hx) (fun x hx => digs_dgv (by omega) (by omega) _ _ x hx) (fun e => by rw [e] at hlen; simp at hlen; omega)
  have hpv : pv ⟨(toBytes (digs 16 q n)).toArray⟩ 16 (⟨(toBytes (digs 16 q n)).toArray⟩ : ByteArray).size = n := by
    rw [pv_all (fun x hx => digs_lt (by omega) (by omega) _ _ x hx), plv_digs (by omega) (by omega), show (16 : Nat) = 2 ^ 4 from rfl, ← Nat.pow_mul, Nat.mod_eq_of_lt hn]
  refine parse9_x _ (by rw [txB_size, hlen]; omega) (hasBX _) (hasX _) _ _ _ (fun w1 => ?_) w
  rw [cutX]
  have P := parsed_ok ⟨(toBytes (digs 16 q n)).toArray⟩ 16 4 n (Or.inr (Or.inr rfl)) (by omega) (by rw [hsz]; omega) hok hpv (two_big h2 |>.1 |> Nat.lt_trans hn) w1
  rw [hsz, show ((4 : Nat) : Int) * (q : Int) = ((4 * q : Nat) : Int) by omega, (frs (4 * q) (by omega) h2 n hn).1, (frs (4 * q) (by omega) h2 n hn).2.1, (frs (4 * q) (by omega) h2 n hn).2.2] at P
  exact P
end Go.Proofs.YtehdfkafdpfdnaaGreatDoor
