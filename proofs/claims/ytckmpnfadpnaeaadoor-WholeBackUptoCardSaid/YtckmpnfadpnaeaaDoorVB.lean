/- WholeBack: the law's own walk. -/
import Derived.Test.YtckmpnfadpnaeaaDoorZY
import Derived.Test.YtckmpnfadpnaeaaDoorYI
import Derived.Test.YtckmpnfadpnaeaaDoorVA
set_option linter.unusedVariables false
set_option linter.unusedSimpArgs false
namespace Go.Proofs.YtckmpnfadpnaeaaDoor
open Go.RowKit Mth

theorem bytes_inj {l l' : List Nat} (h : ∀ x ∈ l, x < 256) (h' : ∀ x ∈ l', x < 256) (e : (⟨(toBytes l).toArray⟩ : ByteArray) = ⟨(toBytes l').toArray⟩) : l = l' := by
  have e1 : toBytes l = toBytes l' := by
    have := congrArg (fun b => b.data.toList) e
    simpa using this
  have k : ∀ m : List Nat, (∀ x ∈ m, x < 256) → (toBytes m).map UInt8.toNat = m := by
    intro m
    induction m with
    | nil => intro _; rfl
    | cons a m ih =>
      intro hm
      have ha := hm a (by simp)
      have e3 : a.toUInt8.toNat = a := by simp; omega
      show a.toUInt8.toNat :: (toBytes m).map UInt8.toNat = _
      rw [e3, ih (fun x hx => hm x (by simp [hx]))]
  rw [← k l h, ← k l' h', e1]
theorem zS_lt (z : Int) : ∀ x ∈ zS z, x < 256 := by
  intro x hx
  unfold zS at hx
  split at hx
  · cases hx
  · split at hx
    · rcases List.mem_cons.1 hx with rfl | h
      · omega
      · exact numeral_lt (by omega) (by omega) _ _ h
    · exact numeral_lt (by omega) (by omega) _ _ hx
theorem no_minus (n : Nat) : 45 ∉ numeral 10 n := fun h => by
  have := numeral_digits (b := 10) (by omega) (by omega) n 45 h
  revert this; decide
theorem zS_inj {x y : Int} (hx : x.natAbs < Big) (hy : y.natAbs < Big) (e : zS x = zS y) : x = y := by
  have pl := plv_numeral (b := 10) (by omega) (by omega)
  by_cases h1 : x < 0 <;> by_cases h2 : y < 0
  · rw [zS_neg hx h1, zS_neg hy h2] at e
    have e2 := (List.cons.inj e).2
    have := pl x.natAbs; rw [e2, pl] at this; omega
  · rw [zS_neg hx h1, zS_pos hy (by omega)] at e
    exact absurd (by rw [← e]; simp) (no_minus y.natAbs)
  · rw [zS_pos hx (by omega), zS_neg hy h2] at e
    exact absurd (by rw [e]; simp) (no_minus x.natAbs)
  · rw [zS_pos hx (by omega), zS_pos hy (by omega)] at e
    have := pl x.natAbs; rw [e, pl] at this; omega
/-- the string that is printed -/
def zT (z : Int) : ByteArray := ⟨(toBytes (zS z)).toArray⟩
theorem zT_big {z : Int} (h : Big ≤ z.natAbs) : zT z = ⟨#[]⟩ := by unfold zT; rw [zS_big h]; rfl
theorem zT_inj {x y : Int} (hx : x.natAbs < Big) (hy : y.natAbs < Big) (e : zT x = zT y) : x = y := zS_inj hx hy (bytes_inj (zS_lt x) (zS_lt y) e)
theorem zT_size {z : Int} (h : z.natAbs < Big) : 0 < (zT z).size ∧ (zT z).size ≤ 16000001 := by
  have hnl := numeral_size (b := 10) (by omega) h
  have hne := numeral_ne (b := 10) (by omega) z.natAbs
  have hp : 0 < (numeral 10 z.natAbs).length := List.length_pos_iff.2 hne
  unfold zT
  rw [str_len]
  by_cases hn : z < 0
  · rw [zS_neg h hn, List.length_cons]; omega
  · rw [zS_pos h (by omega)]; omega
theorem IntC.long {w : World} {base k c : Nat} {n : Bool} {ao : Option Addr} {z : Int} (h : IntC w base (.agg #[.bool n, .slice ao k c]) z) : 4096 < k ↔ Big ≤ z.natAbs := by
  obtain ⟨u, e, ho⟩ := h
  simp only [Value.agg.injEq, Array.mk.injEq, List.cons.injEq, and_true] at e
  obtain ⟨_, rfl⟩ := e
  exact ho.long

set_option maxHeartbeats 16000000 in
set_option maxRecDepth 100000 in
theorem wback_walk (w : World) (v0 v1 : Value) (x y : Int) (hz : TZ10 w) (h0 : IntV w v0 x) (h1 : IntV w v1 y) :
    Calls Tryd.prog 9 #[v0, v1] w fun e w' => e = .returned (.bool true) ∧ Below w.heap.size w w' := by
  have HZ := Lib.hid hz
  obtain ⟨n0, a0, k0, c0, rfl⟩ := h0.shape
  obtain ⟨n1, a1, k1, c1, rfl⟩ := h1.shape
  have HA := Lib.hid h0; have HB := Lib.hid h1
  clear hz h0 h1
  have PR : Hid (∀ v z w1, IntV w1 v z → TZ10 w1 → Calls Tryd.prog 20 #[v] w1 fun e w' => e = .returned (.tuple #[.string (zT z), .int .i64 (zE z)]) ∧ Below w1.heap.size w1 w') := Lib.hid (fun v z w1 h hz => printI_any v z w1 h hz)
  go_enter Tryd.func9, Tryd.ntmps9
  go_wp2_with fail
  obtain ⟨W, eW, b1, b2, bel, hsz⟩ := alloc2 w (Obj.cells #[Value.bool n0, Value.slice a0 k0 c0] 25) (Obj.cells #[Value.bool n1, Value.slice a1 k1 c1] 25)
  rw [eW]
  clear eW
  obtain ⟨p0, p1, _, _, _⟩ := blk2 b1
  obtain ⟨q0, q1, _, _, _⟩ := blk2 b2
  have STAY : Hid (∀ w', Below W.heap.size W w' → w'.cell? ⟨w.heap.size, 0, none⟩ = some (.bool n0) ∧ w'.cell? ⟨w.heap.size, 1, none⟩ = some (.slice a0 k0 c0) ∧ w'.cell? ⟨w.heap.size + 1, 0, none⟩ = some (.bool n1) ∧ w'.cell? ⟨w.heap.size + 1, 1, none⟩ = some (.slice a1 k1 c1)) :=
    Lib.hid (fun w' h => ⟨cell_to h p0 (by omega), cell_to h p1 (by omega), cell_to h q0 (by omega), cell_to h q1 (by omega)⟩)
  have BEL := Lib.hid bel
  clear b1 b2 bel
  refine (PR.out _ x W (HA.out.below BEL.out) (HZ.out.below BEL.out)).mono ?_
  rintro e w1 ⟨rfl, hb1⟩
  have K1 := Lib.hid hb1
  have B1 := Lib.hid (below_of BEL.out hb1)
  clear p0 p1 q0 q1
  obtain ⟨p0, p1, q0, q1⟩ := STAY.out _ hb1
  clear hb1
  go_wp2_with fail
  refine (PR.out _ y w1 (HB.out.below B1.out) (HZ.out.below B1.out)).mono ?_
  rintro e w2 ⟨rfl, hb2⟩
  have K2 := Lib.hid (below_to hb2 K1.out)
  have B2 := Lib.hid (below_of B1.out hb2)
  clear p0 p1 q0 q1 K1
  obtain ⟨p0, p1, q0, q1⟩ := STAY.out _ K2.out
  clear hb2
  go_wp2_with fail
  refine (norm_any _ x w2 (HA.out.below B2.out)).mono ?_
  rintro e w3 ⟨v3, rfl, hi, hb3⟩
  have K3 := Lib.hid (below_to hb3 K2.out)
  have B3 := Lib.hid (below_of B2.out hb3)
  clear p0 p1 q0 q1 hb3 K2
  obtain ⟨m3, d3, l3, f3, rfl⟩ := hi.shape
  have HI := Lib.hid hi
  have hl := hi.long
  clear hi
  go_wp2_with fail
  obtain ⟨V, eV, hV, belV, hszV⟩ := alloc1 w3 (Obj.cells #[Value.bool m3, Value.slice d3 l3 f3] 25)
  rw [eV]
  obtain ⟨s0, s1, _, _, _⟩ := blk2 hV
  have KV := Lib.hid (below_to belV K3.out)
  have BV := Lib.hid (below_of B3.out belV)
  have MV := Lib.hid (HI.out.k.below belV)
  clear eV hV belV
  refine (awake_any _ (HZ.out.below BV.out)).mono ?_
  rintro e w4 ⟨rfl, hb4⟩
  have K4 := Lib.hid (below_to hb4 KV.out)
  have B4 := Lib.hid (below_of BV.out hb4)
  have M4 := Lib.hid (MV.out.below hb4)
  have s0' := cell_to hb4 s0 hszV; have s1' := cell_to hb4 s1 hszV
  have hsz4 := Lib.hid (Nat.lt_of_lt_of_le hszV hb4.size)
  clear s0 s1 hb4 hszV
  obtain ⟨p0, p1, q0, q1⟩ := STAY.out _ K4.out
  by_cases hbig : Big ≤ x.natAbs
  · have hd : decide ((4096 : Int) < (l3 : Int)) = true := decide_eq_true (by have := hl.2 hbig; omega)
    rw [zT_big hbig, (z_big hbig).2]
    clear hl hbig p0 p1 q0 q1
    go_wp2
    go_ret
    exact ⟨rfl, B4.out⟩
  · have hfx := Lib.hid (Nat.lt_of_not_le hbig)
    have hd : decide ((4096 : Int) < (l3 : Int)) = false := decide_eq_false (by have := hl.1; omega)
    obtain ⟨hs1, hs2⟩ := zT_size hfx.out
    have hp : decide ((0 : Int) < ((zT x).size : Int)) = true := decide_eq_true (by omega)
    have hne : (((zT x).size : Int) == 0) = false := by rw [beq_eq_false_iff_ne]; omega
    rw [(z_fine hfx.out).2]
    clear hl hbig
    by_cases hby : Big ≤ y.natAbs
    · rw [(z_big hby).2]
      clear hby p0 p1 q0 q1
      generalize zT x = S at *
      generalize zT y = T at *
      go_wp2
      go_ret
      exact ⟨rfl, B4.out⟩
    · have hfy := Lib.hid (Nat.lt_of_not_le hby)
      rw [(z_fine hfy.out).2]
      have PB : Hid (∀ w1, Calls Tryd.prog 32 #[.string (zT x)] w1 fun e w' => ∃ v', e = .returned (.tuple #[v', .int .i64 0]) ∧ IntK w' v' x ∧ Below w1.heap.size w1 w') := Lib.hid (fun w1 => parse_back x w1 hfx.out)
      have EQ : Hid ((zT x = zT y ∧ zcmp x y = 0) ∨ (zT x ≠ zT y ∧ (zcmp x y = 1 ∨ zcmp x y = -1))) := Lib.hid (by
        by_cases hxy : x = y
        · exact .inl ⟨by rw [hxy], zcmp_eq hxy⟩
        · refine .inr ⟨fun e => hxy (zT_inj hfx.out hfy.out e), ?_⟩
          rcases Int.lt_or_gt_of_ne hxy with h | h
          · exact .inr (zcmp_lt h)
          · exact .inl (zcmp_gt h))
      clear hby
      generalize zT x = S at *
      generalize zT y = T at *
      go_wp2_with fail
      refine (PB.out _).mono ?_
      rintro e w5 ⟨v5, rfl, hi5, hb5⟩
      have K5 := below_to hb5 K4.out
      have B5 := below_of B4.out hb5
      have M5 := M4.out.below hb5
      have t0 := cell_to hb5 s0' hsz4.out; have t1 := cell_to hb5 s1' hsz4.out
      have hsz5 := Nat.lt_of_lt_of_le hsz4.out hb5.size
      obtain ⟨m5, d5, l5, f5, rfl⟩ := hi5.shape
      clear s0' s1' p0 p1 q0 q1 hb5
      go_wp2_with fail
      obtain ⟨U, eU, hU, belU, hszU⟩ := alloc1 w5 (Obj.cells #[Value.bool m5, Value.slice d5 l5 f5] 25)
      rw [eU]
      obtain ⟨u0, u1, _, _, _⟩ := blk2 hU
      have KU := Lib.hid (below_to belU K5)
      have BU := Lib.hid (below_of B5 belU)
      have MU := Lib.hid (M5.below belU)
      have IU := Lib.hid (hi5.below belU)
      have t0' := cell_to belU t0 hsz5; have t1' := cell_to belU t1 hsz5
      clear eU hU hi5 M5 K5 B5 t0 t1
      refine (same_any _ _ x U IU.out MU.out).mono ?_
      rintro e w6 ⟨rfl, hb6⟩
      have K6 := Lib.hid (below_to hb6 KU.out)
      have B6 := Lib.hid (below_of BU.out hb6)
      obtain ⟨p0, p1, q0, q1⟩ := STAY.out _ K6.out
      clear u0 u1 t0' t1' hb6
      go_wp2_with fail
      refine (cmpI_any _ _ x y w6 (HA.out.below B6.out) (HB.out.below B6.out)).mono ?_
      rintro e w7 ⟨rfl, hb7⟩
      have B7 := Lib.hid (below_of B6.out hb7)
      clear p0 p1 q0 q1 hb7
      rcases EQ.out with ⟨h1, h2⟩ | ⟨h1, h2 | h2⟩
      · subst h1
        rw [h2]
        clear h2
        go_wp2
        go_ret
        exact ⟨by first | rfl | simp, B7.out⟩
      · have hb : ¬ S.toList = T.toList := fun e => h1 (ByteArray.ext (Array.toList_inj.1 (by rw [← Lib.toList_data, ← Lib.toList_data]; exact e)))
        rw [h2]
        clear h2
        go_wp2
        go_ret
        exact ⟨by first | rfl | simp [hb], B7.out⟩
      · have hb : ¬ S.toList = T.toList := fun e => h1 (ByteArray.ext (Array.toList_inj.1 (by rw [← Lib.toList_data, ← Lib.toList_data]; exact e)))
        rw [h2]
        clear h2
        go_wp2
        go_ret
        exact ⟨by first | rfl | simp [hb], B7.out⟩
end Go.Proofs.YtckmpnfadpnaeaaDoor
