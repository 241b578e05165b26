/- Package whole: less; a tally. -/
import Derived.Test.YtckmpnfadpnaeaaDoorZG
set_option linter.unusedVariables false
set_option linter.unusedSimpArgs false
namespace Go.Proofs.YtckmpnfadpnaeaaDoor
open Go.RowKit Mth

theorem takeT_len {xs ys b : List Nat} {k c : Nat} (h : TakeT xs ys b k c) : ys.length = xs.length := h.len
/-- a borrow is left only ahead of the end -/
theorem take_open {xs ys b : List Nat} {k : Nat} (h : TakeT xs ys b k 1) (lx : Lim B64 xs) (hb : b.length ≤ xs.length) (hk : k ≤ xs.length) (hle : val B64 b ≤ val B64 xs) : k < xs.length := by
  rcases Nat.lt_or_ge k xs.length with h1 | h1
  · exact h1
  · exfalso
    obtain rfl : k = xs.length := by omega
    have := (takeT_end h lx hb hle).1
    omega
theorem take_done {xs ys b : List Nat} {k : Nat} (h : TakeT xs ys b k 0) (lx : Lim B64 xs) (hk : b.length ≤ k) (hk2 : k ≤ xs.length) (hle : val B64 b ≤ val B64 xs) : val B64 ys = val B64 xs - val B64 b := by
  have h2 := takeT_more h hk hk2 (xs.length - k) (by omega)
  rw [show k + (xs.length - k) = xs.length by omega] at h2
  exact (takeT_end h2 lx (by omega) hle).2

set_option maxHeartbeats 2000000 in
set_option maxRecDepth 100000 in
theorem less_some (g base cap : Nat) (post : List Value) (xs b : List Nat) (bv : Value) (w : World) (hM : Mid w g [] xs post) (hbg : base ≤ g) (lx : Lim B64 xs) (hb : Sl w .u64 bv b) (lb : Lim B64 b) (hne : inBlock bv ≠ some g ∨ b = []) (hlen : b.length ≤ xs.length) (hle : val B64 b ≤ val B64 xs)
    (hcap : xs.length ≤ cap) (hm : cap ≤ maxLen) (hxl : xs.length ≤ 16777000) :
    Calls Tryd.prog 69 #[.slice (some ⟨g, 0, none⟩) xs.length cap, bv] w fun e w' => ∃ n, e = .returned (.slice (some ⟨g, 0, none⟩) n cap) ∧ Ow w' base (.slice (some ⟨g, 0, none⟩) n cap) (val B64 xs - val B64 b) ∧ w.grownBy w' (some g) := by
  obtain ⟨ao, cap2, rfl, h1, h2, h3, h4, h5⟩ := hb
  have H5 := Lib.hid h5; have HM := Lib.hid hM; have LX := Lib.hid lx; have LB := Lib.hid lb; have HNE := Lib.hid hne; have HLE := Lib.hid hle; have HCM := Lib.hid hm; have HBG := Lib.hid hbg
  unfold maxLen at h2 hm
  clear h3 h4 h5 hM lx lb hne hle hbg
  go_enter Tryd.func69, Tryd.ntmps69
  go_wp2
  go_loopw [5, 11] (fun c i wr => LessW w wr g xs b post c i 0 b.length) (fun _ i _ => b.length - (intOf i).toNat)
  case atStart => exact ⟨0, 0, xs, Nat.le_refl _, Nat.zero_le _, rfl, rfl, takeT_zero b LX.out, HM.out, World.grownBy.refl _ _⟩
  case round =>
    obtain ⟨k, c, ys, _, hk, rfl, rfl, hT, hrow, hgr⟩ := hrel
    have HT := Lib.hid hT; have HROW := Lib.hid hrow; have HG := Lib.hid hgr
    by_cases hlt : k < b.length
    · obtain ⟨bb, boff, rfl, hblt, hc⟩ := H5.out (by omega)
      have hne : bb ≠ g := by
        rcases HNE.out with h | h
        · simpa [inBlock] using h
        · subst h; simp at hlt
      have hcb : wr.cell? ⟨bb, boff + k, none⟩ = some (.int .u64 ((b.getD k 0 : Nat) : Int)) := hgr.cell (hc k hlt) (by simpa using hne)
      have hky : k < ys.length := by rw [hT.len]; omega
      have hcr : wr.cell? ⟨g, k, none⟩ = some (.int .u64 ((ys.getD k 0 : Nat) : Int)) := by simpa using hrow.cell hky
      have hfr : wr.frozen? ⟨g, k, none⟩ = false := hrow.free _
      have HST := Lib.hid (takeT_step hT LB.out (show k < xs.length by omega))
      have hc1 := hT.cle
      have HKY := Lib.hid hky
      generalize b.getD k 0 = y at *
      generalize ys.getD k 0 = x at *
      have hsub := fun w => sub64_run x y c hc1 w
      have hkr : k < xs.length := by omega
      clear hc hT hrow hgr hne hky
      go_wp2
      go_roundw
      case rel =>
        have hset := HROW.out.set HKY.out (sLo x y c)
        simp only [List.length_nil, Nat.zero_add] at hset
        exact ⟨k + 1, sHi x y c, _, Nat.zero_le _, by omega, by go_num, rfl, HST.out, hset.1, grown_trans' HG.out hset.2⟩
      case measure => simp [intOf]; omega
    · have hkb : k = b.length := by omega
      have HKB := Lib.hid hkb
      clear hT hrow hgr hkb
      obtain ⟨wo, rfl⟩ : ∃ wo : World, wo = wr := ⟨_, rfl⟩
      go_wp2
      go_loopw [5, 8] (fun c i wr => LessW w wr g xs b post c i b.length xs.length) (fun _ i _ => xs.length - (intOf i).toNat)
      case atStart => exact ⟨b.length, c, ys, Nat.le_refl _, hlen, rfl, rfl, by rw [← HKB.out]; exact HT.out, HROW.out, HG.out⟩
      case round =>
        obtain ⟨k2, c2, ys2, hlo, hhi, rfl, rfl, hT, hrow, hgr⟩ := hrel
        have HT2 := Lib.hid hT; have HROW2 := Lib.hid hrow; have HG2 := Lib.hid hgr
        by_cases hc0 : c2 = 0
        · have hd : ((c2 : Int) != 0) = false := by rw [hc0]; rfl
          subst hc0
          have HE := Lib.hid (take_done hT LX.out hlo hhi HLE.out)
          have HYL := Lib.hid hT.len
          have TR := Lib.hid (wtrim_eq (mid_sl (cap := cap) hrow (by rw [hT.len]; exact hcap) HCM.out (by rw [hT.len]; omega)))
          have hyl : ys2.length = xs.length := hT.len
          rw [hyl] at TR
          clear hT hrow hgr hyl
          go_wp2_with fail
          refine TR.out.mono ?_
          rintro e w' ⟨rfl, rfl⟩
          go_wp2
          go_ret
          refine ⟨_, rfl, ?_, HG2.out⟩
          have ht := tlen_le ys2
          have htop : Top (ys2.take (tlen ys2)) := top_trimL ys2
          have hv : val B64 (ys2.take (tlen ys2)) = val B64 ys2 := val_trimL _ _
          rw [← HE.out, ← hv]
          have e1 := HYL.out
          exact mid_ow HROW2.out HBG.out ht (by omega) HCM.out (by omega) HT2.out.lim htop
        · have hd : ((c2 : Int) != 0) = true := by rw [bne_iff_ne]; omega
          obtain rfl : c2 = 1 := by have := hT.cle; omega
          have hend := take_open hT LX.out hlen hhi HLE.out
          have hky : k2 < ys2.length := by rw [hT.len]; omega
          have hcr : wr.cell? ⟨g, k2, none⟩ = some (.int .u64 ((ys2.getD k2 0 : Nat) : Int)) := by simpa using hrow.cell hky
          have hfr : wr.frozen? ⟨g, k2, none⟩ = false := hrow.free _
          have HST := Lib.hid (takeT_step hT LB.out hend)
          have HKY := Lib.hid hky
          rw [getD_ge b k2 hlo] at HST
          generalize ys2.getD k2 0 = x at *
          have hsub : ∀ w, (callFunc 90 #[.int .u64 (x : Int), .int .u64 0, .int .u64 1]).run Tryd.prog w = .ok (.value (.tuple #[.int .u64 ((sLo x 0 1 : Nat) : Int), .int .u64 ((sHi x 0 1 : Nat) : Int)])) w := fun w => sub64_run x 0 1 (by omega) w
          clear hT hrow hgr hc0 hky
          go_wp2
          go_roundw
          case rel =>
            have hset := HROW2.out.set HKY.out (sLo x 0 1)
            simp only [List.length_nil, Nat.zero_add] at hset
            exact ⟨k2 + 1, sHi x 0 1, _, by omega, by omega, by go_num, rfl, HST.out, hset.1, grown_trans' HG2.out hset.2⟩
          case measure => simp [intOf]; omega
theorem less_nil (ao : Option Addr) (c : Nat) (w : World) (_hm : c ≤ maxLen) : Calls Tryd.prog 69 #[.slice none 0 0, .slice ao 0 c] w fun e w' => e = .returned (.slice none 0 0) ∧ w = w' := by
  unfold maxLen at _hm
  go_enter Tryd.func69, Tryd.ntmps69
  go_wp2
  refine wp_loop_rounds 1 ?_
  rw [rounds_succ]
  go_wp2
  refine wp_loop_rounds 1 ?_
  rw [rounds_succ]
  go_wp2_with fail
  refine (wtrim_zero none 0 _ (by unfold maxLen; omega) (fun _ => rfl)).mono ?_
  rintro e w' ⟨rfl, rfl⟩
  go_wp2
  go_ret
  exact ⟨rfl, rfl⟩
theorem less_any (base : Nat) (v : Value) (xs b : List Nat) (bv : Value) (w : World) (hown : w.ownsRow base 65 1 v xs.length (cellsOf .u64 xs)) (lx : Lim B64 xs) (hb : Sl w .u64 bv b) (lb : Lim B64 b) (tb : Top b) (hne : inBlock bv ≠ v.ownBlock ∨ b = []) (hle : val B64 b ≤ val B64 xs) (hl : xs.length ≤ 16777000) :
    Calls Tryd.prog 69 #[v, bv] w fun e w' => ∃ v', e = .returned v' ∧ Ow w' base v' (val B64 xs - val B64 b) ∧ w.grownBy w' v.ownBlock := by
  have hlen := length_le_of_val B64_pos lx tb hle
  rcases own_form hown with ⟨rfl, rfl⟩ | ⟨g, cap, post, rfl, h1, h2, h3, h4, h5⟩
  · obtain rfl : b = [] := List.eq_nil_of_length_eq_zero (by simpa using hlen)
    obtain ⟨ao, c, rfl, _, hm, _⟩ := hb
    exact (less_nil ao c w hm).mono fun e w' ⟨he, hw⟩ => ⟨_, he, by subst hw; exact ow_nil _ _, by subst hw; exact World.grownBy.refl _ _⟩
  · refine (less_some g base cap post xs b bv w h4 h1 lx hb lb ?_ hlen hle h2 h3 hl).mono ?_
    · rcases hne with h | h
      · exact .inl (by simpa [Value.ownBlock] using h)
      · exact .inr h
    · rintro e w' ⟨n, he, ho, hg⟩
      exact ⟨_, he, ho, by simpa [Value.ownBlock] using hg⟩
end Go.Proofs.YtckmpnfadpnaeaaDoor
