/- lexis's law: awake. -/
import Derived.Test.YtlgcmpiobglbbaaDoorKE
set_option linter.unusedVariables false
set_option linter.unusedSimpArgs false
namespace Go.Proofs.YtlgcmpiobglbbaaDoor
open Go.RowKit Mth

def s0 : ByteArray := ⟨#[49, 50, 32, 124, 108, 101, 116, 124]⟩
def L0 : List Tk := [⟨3, ⟨#[49, 50]⟩, false, 1, 1⟩, ⟨8, ⟨#[108, 101, 116]⟩, true, 1, 4⟩]
theorem one_s0 : oneF s0 0 = .tok 3 ⟨#[49, 50]⟩ false 2 := by
  have h := num_tok (s := s0) (p := 0) (q := 2) ⟨by omega, fun i i1 i2 => by
    rcases (show i = 0 ∨ i = 1 by omega) with rfl | rfl <;> rfl, .inl (by decide)⟩ (by decide) (.inr (by decide))
  rw [h]; rfl
theorem one_s3 : oneF s0 3 = .tok 8 ⟨#[108, 101, 116]⟩ true 8 := by
  rw [one_ba (by rfl), ba_of (n := 7) 3 (by omega) (by omega) (by decide) (by rfl) (fun j j1 j2 => by
    rcases (show j = 4 ∨ j = 5 ∨ j = 6 by omega) with rfl | rfl | rfl <;> decide)]
  rfl
theorem scan_s0 : scanF s0 0 = .ok L0 := by
  have e0 : skipF s0 0 = 0 := skip_here (by decide) (by decide)
  have e2 : skipF s0 2 = 3 := by rw [skip_blank (by decide) (by decide)]; exact skip_here (by decide) (by decide)
  have e8 : skipF s0 8 = 8 := skip_end (by decide)
  have h8 : scanF s0 8 = .ok [] := scan_end (by rw [e8]; decide)
  have h2 : scanF s0 2 = .ok [⟨8, ⟨#[108, 101, 116]⟩, true, 1, 4⟩] := by
    rw [scan_tok (p := 2) (n := 8) (by rw [e2]; decide) (by rw [e2]; exact one_s3) (by rw [e2]; decide), h8, e2]
    rfl
  rw [scan_tok (p := 0) (n := 2) (by rw [e0]; decide) (by rw [e0]; exact one_s0) (by rw [e0]; decide), h2, e0]
  rfl
theorem good_L0 : ∀ x ∈ L0, Good x := by
  intro x hx
  simp [L0] at hx
  rcases hx with rfl | rfl
  · exact good_tok (p := 0) (by decide) (by decide) one_s0 1 1
  · exact good_tok (p := 3) (by decide) (by decide) one_s3 1 4
theorem cat_L0 : catL none L0 = [49, 50, 32, 124, 108, 101, 116, 124] := by rfl
set_option maxHeartbeats 2000000 in
set_option maxRecDepth 100000 in
theorem awake_any (w : World) (hL : LexW w) : Calls Tryd.prog 14 #[] w fun e w' => e = .returned (.bool true) ∧ Below w.heap.size w w' := by
  have HL := Lib.hid hL
  have SC := Lib.hid (scan_any s0 (by decide) w hL)
  rw [scan_s0] at SC
  unfold s0 at SC
  clear hL
  go_enter Tryd.func14, Tryd.ntmps14
  go_wp2_with fail
  refine SC.out.mono ?_
  rintro e w1 ⟨hb, (⟨L, v, hLs, rfl, htk, hfar⟩ | ⟨E, x0, y0, hbad, hE, rfl⟩)⟩
  · have hLL : L0 = L := by injection hLs
    subst hLL
    have HB := Lib.hid hb
    have JN := Lib.hid (join_any L0 v w1 (HL.out.below hb) htk (by decide) (by
      intro x hx
      simp [L0] at hx
      rcases hx with rfl | rfl <;> decide))
    have HTK := Lib.hid htk
    obtain ⟨ao, cap, rfl, hc⟩ := htk
    obtain ⟨b, off, rfl, hlt, hcc⟩ := hc (by simp [L0])
    obtain ⟨a0, a1, a2, a3, a4⟩ := TkL.at hcc (i := 1) (x := ⟨8, ⟨#[108, 101, 116]⟩, true, 1, 4⟩) rfl
    have hlen : L0.length = 2 := rfl
    rw [hlen] at JN
    clear hb hLs hfar hc hcc HTK
    rw [hlen]
    go_wp2_with fail
    refine JN.out.mono ?_
    rintro e w2 ⟨hb2, (⟨hg, hz, rfl⟩ | ⟨hg, hz, rfl⟩ | ⟨hg, rfl⟩)⟩
    · have HB2 := Lib.hid hb2
      have c0 := (HB2.out.cell (p := ⟨b, off + 1 * 5, none⟩) hlt).trans a0
      have c1 := (HB2.out.cell (p := ⟨b, off + 1 * 5 + 1, none⟩) hlt).trans a1
      have c2 := (HB2.out.cell (p := ⟨b, off + 1 * 5 + 2, none⟩) hlt).trans a2
      have c3 := (HB2.out.cell (p := ⟨b, off + 1 * 5 + 3, none⟩) hlt).trans a3
      have c4 := (HB2.out.cell (p := ⟨b, off + 1 * 5 + 4, none⟩) hlt).trans a4
      rw [Nat.one_mul] at c0 c1 c2 c3 c4
      rw [cat_L0]
      clear hb2 hg hz a0 a1 a2 a3 a4 hlen
      go_wp2
      go_ret
      exact ⟨rfl, HB.out.trans (HB2.out.mono HB.out.size)⟩
    · exfalso; rw [cat_L0] at hz; simp at hz
    · exact absurd good_L0 hg
  · exfalso; cases hbad
end Go.Proofs.YtlgcmpiobglbbaaDoor
