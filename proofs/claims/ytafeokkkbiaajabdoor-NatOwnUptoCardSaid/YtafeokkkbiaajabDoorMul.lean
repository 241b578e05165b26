/- mulAdd, addTimes. -/
import Derived.Test.YtafeokkkbiaajabDoorSmall
namespace Go.Proofs.YtafeokkkbiaajabDoor
open Go.RowKit Mth

theorem mul64_any (x y : Nat) (hx : x < B64) (hy : y < B64) (w : World) :
    Calls Tryd.prog 80 #[.int .u64 x, .int .u64 y] w fun e w' => e = .returned (.tuple #[.int .u64 ((mHi x y : Nat) : Int), .int .u64 ((mLo x y : Nat) : Int)]) ∧ w = w' :=
  (Go.Proofs.Tryd.bits_Mul64 x y hx hy w).mono fun _ _ ⟨he, hw⟩ => ⟨he, hw.symm⟩
theorem wrap_u64 (n : Nat) (h : n < B64) : IntKind.u64.wrap (n : Int) = n := by
  rw [IntKind.wrap_u64]; unfold B64 at h; omega

set_option maxRecDepth 100000 in
theorem mulAdd_any (x y p : Nat) (hx : x < B64) (hy : y < B64) (hp : p < B64) (w : World) :
    Calls Tryd.prog 70 #[.int .u64 x, .int .u64 y, .int .u64 p] w fun e w' =>
      e = .returned (.tuple #[.int .u64 ((pHi x y p : Nat) : Int), .int .u64 ((pLo x y p : Nat) : Int)]) ∧ w = w' := by
  have M := pHi_lt hx hy hp
  have HM := Lib.hid M; clear M
  have hadd := fun (x y : Nat) (w : World) => add64_run0 x y w
  have HX := Lib.hid hx; have HY := Lib.hid hy; clear hx hy hp
  go_enter Tryd.func70, Tryd.ntmps70
  go_wp2_with fail
  refine (mul64_any _ _ HX.out HY.out _).mono ?_
  rintro e w' ⟨rfl, rfl⟩
  go_wp2
  go_ret2
  obtain ⟨e1, e2⟩ := p_steps (x := x) (y := y) (p := p)
  have e3 := wrap_u64 _ HM.out
  rw [← e2] at e3
  refine ⟨?_, rfl⟩
  rw [← e1, ← e2, ← e3, Int.natCast_add]
  rfl

theorem of_any (x : Nat) (hx : x < B64) (w : World) :
    Calls Tryd.prog 13 #[.int .u64 x] w fun e w' => ∃ v', e = .returned v' ∧ Below w.heap.size w w' ∧ Num w' v' x := by
  have HX := Lib.hid hx; clear hx
  by_cases h0 : x = 0
  · have hd : ((x : Int) == 0) = true := by rw [h0]; rfl
    have H0 := Lib.hid h0; clear h0
    go_enter Tryd.func13, Tryd.ntmps13
    go_wp2
    go_ret
    exact ⟨_, rfl, Below.refl _ _, by rw [H0.out]; exact num_nil _⟩
  · have hd : ((x : Int) == 0) = false := by simp; omega
    have H0 := Lib.hid h0; clear h0
    go_enter Tryd.func13, Tryd.ntmps13
    go_wp2
    go_ret
    have hrow : Row (w.alloc (Obj.cells #[Value.int IntKind.u64 (x : Int)] 36)) 36 .u64 w.heap.size [x] := heap_alloc_new w _
    have hb : Below w.heap.size w (w.alloc (Obj.cells #[Value.int IntKind.u64 (x : Int)] 36)) := (Below.refl _ _).alloc (Nat.le_refl _) _
    refine ⟨_, rfl, hb, [x], hrow.sl_all (by simp), ?_, ?_, by simp [val]⟩
    · exact lim_cons.2 ⟨HX.out, lim_nil (by have := B64_pos; omega)⟩
    · simp [Top, tlen, H0.out]

set_option maxHeartbeats 400000 in
set_option maxRecDepth 100000 in
theorem addTimes_any (g off cap : Nat) (R b : List Nat) (x : Nat) (bv : Value) (w : World) (hR : Row w 36 .u64 g R) (hlim : Lim B64 R) (hoff : off + b.length ≤ R.length) (hc1 : b.length ≤ cap) (hc2 : cap ≤ maxLen)
    (hb : Sl w .u64 bv b) (hbl : Lim B64 b) (hne : inBlock bv ≠ some g) (hp : 0 < b.length) (hx : x < B64) :
    Calls Tryd.prog 59 #[.slice (some ⟨g, off, none⟩) b.length cap, bv, .int .u64 ((x : Nat) : Int)] w fun e w' =>
      ∃ c : Nat, e = .returned (.int .u64 (c : Int)) ∧ ∃ R', Row w' 36 .u64 g R' ∧ w.grownBy w' (some g) ∧ AddT R R' off b x b.length c := by
  have hlen := hb.len
  obtain ⟨bb, boff, bcap, rfl, hb1, hb2, hblt, hbc⟩ := hb.pos hp
  have hne' : bb ≠ g := by simpa [inBlock] using hne
  clear hne hb
  unfold maxLen at hc2 hb2
  have HX := Lib.hid hx; have HL := Lib.hid hlim; have HBL := Lib.hid hbl; have HBC := Lib.hid hbc; have HR := Lib.hid hR
  clear hx hlim hbl hbc hR
  go_enter Tryd.func59, Tryd.ntmps59
  go_wp2
  go_loopw [7, 15] (fun c i wr => ∃ k cc : Nat, k ≤ b.length ∧ i = .int .i64 k ∧ c = .int .u64 (cc : Int) ∧ ∃ R', Row wr 36 .u64 g R' ∧ w.grownBy wr (some g) ∧ AddT R R' off b x k cc)
    (fun _ i _ => b.length - (intOf i).toNat)
  case atStart => exact ⟨0, 0, Nat.zero_le _, rfl, rfl, R, HR.out, World.grownBy.refl _ _, addT_zero HL.out⟩
  case round =>
    obtain ⟨k, cc, hk, rfl, rfl, R', hR', hgr, hT⟩ := hrel
    by_cases hlt : k < b.length
    · have hcb : wr.cell? ⟨bb, boff + k, none⟩ = some (.int .u64 ((b.getD k 0 : Nat) : Int)) := hgr.cell (HBC.out k hlt) (by simpa using hne')
      have hcr : wr.cell? ⟨g, off + k, none⟩ = some (.int .u64 ((R'.getD (off + k) 0 : Nat) : Int)) := hR'.cell (by rw [hT.len]; omega)
      have hfr : wr.frozen? ⟨g, off + k, none⟩ = false := hR'.free _
      have HT := Lib.hid hT; have HR' := Lib.hid hR'; have HG := Lib.hid hgr
      clear hT hR' hgr
      have hadd := fun (x y : Nat) (w : World) => add64_run0 x y w
      generalize hy : b.getD k 0 = y at hcb
      generalize hs : R'.getD (off + k) 0 = s at hcr
      have HY := Lib.hid hy; have HS := Lib.hid hs
      clear hy hs
      have hyl : y < B64 := by rw [← HY.out]; exact HBL.out k
      have hsl : s < B64 := by rw [← HS.out]; exact HT.out.lim _
      have HYL := Lib.hid hyl; have HSL := Lib.hid hsl
      clear hyl hsl
      go_wp2_with fail
      refine (mulAdd_any _ _ _ HX.out HYL.out HT.out.clt _).mono ?_
      rintro e w' ⟨rfl, rfl⟩
      go_wp2
      go_roundw
      case rel =>
        have hset := HR'.out.set (off + k) (aLo (pLo x y cc) s 0)
        have hstep := addT_step HT.out HX.out HBL.out hlt hoff
        have hcl := carryT_lt (x := x) (y := y) (c := cc) (s := s) HX.out HYL.out HT.out.clt HSL.out
        rw [HY.out, HS.out] at hstep
        refine ⟨k + 1, carryT x y cc s, by omega, by go_num, ?_, _, hset.1, grown_trans' HG.out hset.2, hstep⟩
        have e3 := wrap_u64 _ hcl
        rw [← e3]
        simp [carryT]
      case measure => simp [intOf]; omega
    · have e : k = b.length := by omega
      have HT := Lib.hid hT; have HR' := Lib.hid hR'; have HG := Lib.hid hgr; have E := Lib.hid e
      clear hT hR' hgr e
      go_wp2
      go_ret
      have hT := HT.out
      rw [E.out] at hT
      exact ⟨_, rfl, R', HR'.out, HG.out, hT⟩
end Go.Proofs.YtafeokkkbiaajabDoor
