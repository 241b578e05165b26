/- NatLooks: the law's own walk. -/
import Derived.Test.YtafeokkkbiaajaaDoorLen
import Derived.Test.YtafeokkkbiaajaaDoorAlive
namespace Go.Proofs.YtafeokkkbiaajaaDoor
open Go.RowKit Mth

set_option maxHeartbeats 1000000 in
set_option maxRecDepth 100000 in
theorem looks_walk (w : World) (av bv : Value) (xs ys : List Nat) (n : Nat) (i : Int) (hz : TZ w) (ha : Sl w .u64 av xs) (hb : Sl w .u64 bv ys) (la : Lim B64 xs) (lb : Lim B64 ys) (na : xs.length ≤ 1048576) (nb : ys.length ≤ 1048576) (hn : n < B64)
    (i1 : -9223372036854775808 ≤ i) (i2 : i ≤ 9223372036854775807) :
    Calls Tryd.prog 3 #[av, bv, .int .u64 ((n : Nat) : Int), .int .i64 i] w fun e w' => e = .returned (.bool true) ∧ Below w.heap.size w w' := by
  have HZ := Lib.hid hz; have HA := Lib.hid ha; have HB := Lib.hid hb; have LA := Lib.hid la; have LB := Lib.hid lb; have NA := Lib.hid na; have NB := Lib.hid nb; have HN := Lib.hid hn
  clear hz ha hb la lb na nb hn
  go_enter Tryd.func3, Tryd.ntmps3
  go_wp2_with fail
  refine (small_any _ xs _ HA.out LA.out).mono ?_
  rintro e w1 ⟨rfl, hb1⟩
  have B1 := Lib.hid hb1; clear hb1
  go_wp2_with fail
  refine (rsmall_any _ xs _ (HA.out.below B1.out) LA.out (by have := NA.out; omega)).mono ?_
  rintro e w2 ⟨rfl, hb2⟩
  have B2 := Lib.hid (below_step B1.out hb2); clear hb2
  generalize smallV (val B64 xs) = sv
  generalize smallB (val B64 xs) = sb
  go_wp2_with fail
  refine (of_any n HN.out _).mono ?_
  rintro e w3 ⟨v3, rfl, hb3, hn3⟩
  have B3 := Lib.hid (below_step B2.out hb3); have N3 := Lib.hid hn3; clear hb3 hn3
  go_wp2_with fail
  refine (rof_any n HN.out _).mono ?_
  rintro e w4 ⟨v4, rfl, hn4, hb4⟩
  have B4 := Lib.hid (below_step B3.out hb4); have N4 := Lib.hid hn4; have N3' := Lib.hid (N3.out.below hb4); clear hb4 hn4
  go_wp2_with fail
  refine (same_any _ _ n _ N3'.out N4.out).mono ?_
  rintro e w5 ⟨rfl, hb5⟩
  have B5 := Lib.hid (below_step B4.out hb5); clear hb5
  have hsv : ((sv : Int) == (sv : Int)) = true := by simp
  have hsb : (sb == sb) = true := by simp
  go_wp2_with fail
  refine (cmp_any _ _ xs ys _ (HA.out.below B5.out) (HB.out.below B5.out) LA.out LB.out).mono ?_
  rintro e w6 ⟨rfl, hb6⟩
  have B6 := Lib.hid (below_step B5.out hb6); clear hb6
  go_wp2_with fail
  refine (rcmp_any _ _ xs ys _ (HA.out.below B6.out) (HB.out.below B6.out) LA.out LB.out (by have := NA.out; omega) (by have := NB.out; omega)).mono ?_
  rintro e w7 ⟨rfl, hb7⟩
  have B7 := Lib.hid (below_step B6.out hb7); clear hb7
  generalize cmp3 (val B64 xs) (val B64 ys) = cv
  have hcv : (cv == cv) = true := by simp
  go_wp2_with fail
  refine (len_any _ xs _ (HA.out.below B7.out) LA.out).mono ?_
  rintro e w8 ⟨rfl, hb8⟩
  have B8 := Lib.hid (below_step B7.out hb8); clear hb8
  go_wp2_with fail
  refine (rlen_any _ xs _ (HA.out.below B8.out) LA.out (by have := NA.out; omega)).mono ?_
  rintro e w9 ⟨rfl, hb9⟩
  have B9 := Lib.hid (below_step B8.out hb9); clear hb9
  generalize bl (val B64 xs) = lv
  have hlv : ((lv : Int) == (lv : Int)) = true := by simp
  go_wp2_with fail
  refine (bit_any _ xs i _ (HA.out.below B9.out) LA.out i1 i2).mono ?_
  rintro e w10 ⟨rfl, hb10⟩
  have B10 := Lib.hid (below_step B9.out hb10); clear hb10
  go_wp2_with fail
  refine (rbit_any _ xs i _ (HA.out.below B10.out) LA.out i1 i2).mono ?_
  rintro e w11 ⟨rfl, hb11⟩
  have B11 := Lib.hid (below_step B10.out hb11); clear hb11
  generalize bitI (val B64 xs) i = tv
  have htv : (tv == tv) = true := by simp
  go_wp2_with fail
  refine (alive_any _ (HZ.out.below B11.out)).mono ?_
  rintro e w12 ⟨rfl, hb12⟩
  have B12 := Lib.hid (below_step B11.out hb12); clear hb12
  go_wp2
  go_ret
  exact ⟨rfl, B12.out⟩
end Go.Proofs.YtafeokkkbiaajaaDoor
