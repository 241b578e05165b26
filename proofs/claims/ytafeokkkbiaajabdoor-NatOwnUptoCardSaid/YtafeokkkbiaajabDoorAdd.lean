/- nat: addTo, Add; NatAdds. -/
import Derived.Test.YtafeokkkbiaajabDoorSub
import Derived.Test.YtafeokkkbiaajabDoorAddH
namespace Go.Proofs.YtafeokkkbiaajabDoor
open Go.RowKit Mth

/-- what addTo's loops hold -/
def PutO (w wr : World) (g off : Nat) (R b : List Nat) (c i : Value) (least most : Nat) : Prop := ∃ (k cc : Nat) (R' : List Nat), least ≤ k ∧ k ≤ most ∧ i = .int .i64 k ∧ c = .int .u64 (cc : Int) ∧ PutT R R' off b k cc ∧ Row wr 36 .u64 g R' ∧ w.grownBy wr (some g)

set_option maxHeartbeats 2000000 in
set_option maxRecDepth 100000 in
theorem addTo_any (g off n cap : Nat) (R b : List Nat) (bv : Value) (w : World) (hR : Row w 36 .u64 g R) (lR : Lim B64 R) (hb : Sl w .u64 bv b) (lb : Lim B64 b) (hne : inBlock bv ≠ some g ∨ b = []) (hlen : b.length ≤ n) (hn : off + n ≤ R.length)
    (hcap : n ≤ cap) (hm : cap ≤ maxLen) (_hRl : R.length ≤ 16777217) :
    Calls Tryd.prog 25 #[.slice (some ⟨g, off, none⟩) n cap, bv] w fun e w' => e = .returned (.tuple #[]) ∧ ∃ R' c, Row w' 36 .u64 g R' ∧ w.grownBy w' (some g) ∧ PutT R R' off b n c := by
  obtain ⟨ao, cap2, rfl, h1, h2, h3, h4, h5⟩ := hb
  have H5 := Lib.hid h5; have HR := Lib.hid hR; have LR := Lib.hid lR; have LB := Lib.hid lb; have HNE := Lib.hid hne
  unfold maxLen at h2 hm
  clear h3 h4 h5 hR lR lb hne
  go_enter Tryd.func25, Tryd.ntmps25
  go_wp2
  go_loopw [4, 10] (fun c i wr => PutO w wr g off R b c i 0 b.length) (fun _ i _ => b.length - (intOf i).toNat)
  case atStart => exact ⟨0, 0, R, Nat.le_refl _, Nat.zero_le _, rfl, rfl, putT_zero off b LR.out, HR.out, World.grownBy.refl _ _⟩
  case round =>
    obtain ⟨k, c, R', _, hk, rfl, rfl, hT, hrow, hgr⟩ := hrel
    have HT := Lib.hid hT; have HROW := Lib.hid hrow; have HG := Lib.hid hgr
    by_cases hlt : k < b.length
    · obtain ⟨bb, boff, rfl, hblt, hc⟩ := H5.out (by omega)
      have hne : bb ≠ g := by
        rcases HNE.out with h | h
        · simpa [inBlock] using h
        · subst h; simp at hlt
      have hcb : wr.cell? ⟨bb, boff + k, none⟩ = some (.int .u64 ((b.getD k 0 : Nat) : Int)) := hgr.cell (hc k hlt) (by simpa using hne)
      have hcr : wr.cell? ⟨g, off + k, none⟩ = some (.int .u64 ((R'.getD (off + k) 0 : Nat) : Int)) := hrow.cell (by rw [hT.len]; omega)
      have hfr : wr.frozen? ⟨g, off + k, none⟩ = false := hrow.free _
      have HST := Lib.hid (putT_step hT LB.out (show off + k < R.length by omega))
      have hc1 := hT.cle
      generalize b.getD k 0 = y at *
      generalize R'.getD (off + k) 0 = x at *
      have hsub := fun w => add64_run x y c hc1 w
      have hkr : k < n := by omega
      clear hc hT hrow hgr hne
      go_wp2
      go_roundw
      case rel =>
        have hset := HROW.out.set (off + k) (aLo x y c)
        exact ⟨k + 1, aHi x y c, _, Nat.zero_le _, by omega, by go_num, rfl, HST.out, hset.1, grown_trans' HG.out hset.2⟩
      case measure => simp [intOf]; omega
    · have hkb : k = b.length := by omega
      have HKB := Lib.hid hkb
      clear hT hrow hgr hkb
      obtain ⟨wo, rfl⟩ : ∃ wo : World, wo = wr := ⟨_, rfl⟩
      go_wp2
      go_loopw [4, 7] (fun c i wr => PutO w wr g off R b c i b.length n) (fun _ i _ => n - (intOf i).toNat)
      case atStart => exact ⟨b.length, c, R', Nat.le_refl _, hlen, rfl, rfl, by rw [← HKB.out]; exact HT.out, HROW.out, HG.out⟩
      case round =>
        obtain ⟨k2, c2, R2, hlo, hhi, rfl, rfl, hT, hrow, hgr⟩ := hrel
        have HT2 := Lib.hid hT; have HROW2 := Lib.hid hrow; have HG2 := Lib.hid hgr
        by_cases hc0 : c2 = 0
        · have hd : ((c2 : Int) != 0) = false := by rw [hc0]; rfl
          subst hc0
          have HE := Lib.hid (by have := putT_more hT hlo (n - k2) (by omega); rwa [show k2 + (n - k2) = n by omega] at this)
          clear hT hrow hgr
          go_wp2
          go_end0
          exact ⟨rfl, R2, 0, HROW2.out, HG2.out, HE.out⟩
        · have hd : ((c2 : Int) != 0) = true := by rw [bne_iff_ne]; omega
          by_cases hend : k2 < n
          · have hcr : wr.cell? ⟨g, off + k2, none⟩ = some (.int .u64 ((R2.getD (off + k2) 0 : Nat) : Int)) := hrow.cell (by rw [hT.len]; omega)
            have hfr : wr.frozen? ⟨g, off + k2, none⟩ = false := hrow.free _
            have HST := Lib.hid (putT_step hT LB.out (show off + k2 < R.length by omega))
            have hc1 := hT.cle
            rw [getD_ge b k2 hlo] at HST
            generalize R2.getD (off + k2) 0 = x at *
            have hsub : ∀ w, (callFunc 43 #[.int .u64 (x : Int), .int .u64 0, .int .u64 (c2 : Int)]).run Tryd.prog w = .ok (.value (.tuple #[.int .u64 ((aLo x 0 c2 : Nat) : Int), .int .u64 ((aHi x 0 c2 : Nat) : Int)])) w := fun w => add64_run x 0 c2 hc1 w
            clear hT hrow hgr hc0
            go_wp2
            go_roundw
            case rel =>
              have hset := HROW2.out.set (off + k2) (aLo x 0 c2)
              exact ⟨k2 + 1, aHi x 0 c2, _, by omega, by omega, by go_num, rfl, HST.out, hset.1, grown_trans' HG2.out hset.2⟩
            case measure => simp [intOf]; omega
          · obtain rfl : k2 = n := by omega
            clear hT hrow hgr hc0
            go_wp2
            go_end0
            exact ⟨rfl, R2, c2, HROW2.out, HG2.out, HT2.out⟩
end Go.Proofs.YtafeokkkbiaajabDoor
