/-
  ratio and Exchange for every product (the code's side; the high word may be greater than 0).
-/
import Derived.Test.YtcjpecdnenemaaaGreatDoorDv2
namespace Go.Proofs.YtcjpecdnenemaaaGreatDoor
set_option linter.all false
open Go.RowKit Go.Shelf

theorem ratio_all (a b c : Int) (ha : 0 ≤ a) (hb : 0 ≤ b) (hc : 0 < c) (ha1 : a ≤ 9223372036854775807) (hb1 : b ≤ 9223372036854775807) (hc1 : c ≤ 9223372036854775807) (h : a * b < c * 18446744073709551616) (w : World) :
    Calls Tryz.prog 132 #[.int .i64 a, .int .i64 b, .int .i64 c] w fun e w' => e = .returned (.int .i64 (ratS a b c)) ∧ Kept w w' := by
  by_cases hsm : a * b ≤ 18446744073709551615
  · exact ratio_any a b c ha hb hc ha1 hb1 hc1 hsm w
  · obtain ⟨x, rfl⟩ := Int.eq_ofNat_of_zero_le ha
    obtain ⟨y, rfl⟩ := Int.eq_ofNat_of_zero_le hb
    obtain ⟨z, rfl⟩ := Int.eq_ofNat_of_zero_le (Int.le_of_lt hc)
    obtain ⟨p, hp⟩ : ∃ p, x * y = p := ⟨_, rfl⟩
    have hpI : (x : Int) * (y : Int) = (p : Int) := by rw [← hp]; push_cast; rfl
    rw [hpI] at h hsm
    obtain ⟨u, hu⟩ : ∃ u, p / 18446744073709551616 = u := ⟨_, rfl⟩
    obtain ⟨v, hv⟩ : ∃ v, p % 18446744073709551616 = v := ⟨_, rfl⟩
    have huv : u * 18446744073709551616 + v = p := by omega
    have hu0 : 0 < u := by omega
    have huz : u < z := by omega
    have hv1 : v < 18446744073709551616 := by omega
    obtain ⟨q, hq⟩ : ∃ q, p / z = q := ⟨_, rfl⟩
    obtain ⟨r9, hr9⟩ : ∃ r, p % z = r := ⟨_, rfl⟩
    have hq1 : q < 18446744073709551616 := by
      rw [← hq]; exact (Nat.div_lt_iff_lt_mul (by omega)).2 (by rw [Nat.mul_comm]; omega)
    have HR := Lib.hid (show ratS (x : Int) (y : Int) (z : Int) = min (q : Int) 100000 by unfold ratS; rw [hpI, ← hq]; push_cast; rfl)
    have HP := Lib.hid hp
    have HU := Lib.hid hu
    have HV := Lib.hid hv
    have HUV := Lib.hid huv
    have HQ := Lib.hid hq
    have HR9 := Lib.hid hr9
    have lx : (x : Int) ≤ 18446744073709551615 := by omega
    have ly : (y : Int) ≤ 18446744073709551615 := by omega
    have lz : (z : Int) ≤ 18446744073709551615 := by omega
    have lq : (q : Int) ≤ 18446744073709551615 := by omega
    have HN := Lib.hid (And.intro hu0 (And.intro huz hv1))
    have HZ := Lib.hid (show z < 18446744073709551616 by omega)
    have HX := Lib.hid (And.intro (show x < 18446744073709551616 by omega) (show y < 18446744073709551616 by omega))
    clear hp hpI h hsm hu hv huv hq hr9 hu0 huz hv1 hq1
    go_enter Tryz.func132, Tryz.ntmps132
    go_wp2_with fail
    refine (Tryz.bits_Mul64 x y HX.out.1 HX.out.2 _).mono ?_
    rw [HP.out, HU.out, HV.out]
    rintro e w1 ⟨rfl, rfl⟩
    go_wp2_with fail
    refine (div64_pos u v z HN.out.1 HN.out.2.1 HZ.out HN.out.2.2 _).mono ?_
    rw [HUV.out, HQ.out, HR9.out]
    rintro e w1 ⟨rfl, hk1⟩
    by_cases hm : (q : Int) ≤ 100000
    · have hmin : min (q : Int) 100000 = (q : Int) := by omega
      go_wp2
      go_ret
      exact ⟨ret_int (by rw [HR.out]; omega), hk1⟩
    · have hmin : min (q : Int) 100000 = 100000 := by omega
      go_wp2
      go_ret
      exact ⟨ret_int (by rw [HR.out]; omega), hk1⟩

set_option maxRecDepth 100000 in
set_option maxHeartbeats 1600000 in
theorem exchange_all (A : Option Addr) (n c : Nat) (xs : List Eqv) (fr tt : ByteArray) (m day known : Int) (w : World) (hT : TabA w A n c xs) (hlt : n ≤ 1000000) :
    Calls Tryz.prog 68 #[.slice A n c, .string fr, .string tt, .int .i64 m, .int .i64 day, .int .i64 known] w fun e w' => e = .returned (i2V (exS xs fr tt m day known)) ∧ Kept w w' := by
  have HT := Lib.hid hT
  clear hT
  obtain ⟨E, hE⟩ : ∃ E, E = chkS xs := ⟨_, rfl⟩
  have HE := Lib.hid hE
  by_cases h0 : E.2 = 0
  · have h0' : (E.2 != 0) = false := by simp [h0]
    by_cases hv : inB m 0 100000 = true
    · have HV := Lib.hid hv
      rcases hfx : inForceS xs fr day known with _ | x
      · obtain ⟨y, hy⟩ : ∃ y, inForceS xs tt day known = y := ⟨_, rfl⟩
        have HO := Lib.hid (show exS xs fr tt m day known = (0, 10) by unfold exS; rw [← hE, if_pos h0, if_pos hv, hfx])
        have HFx := Lib.hid hfx
        have HFy := Lib.hid hy
        clear hfx hy h0 hE hv
        go_enter Tryz.func68, Tryz.ntmps68
        go_wp2_with fail
        refine (check_any A n c xs _ (HT.out.kept (Kept.refl _))).mono ?_
        rw [← HE.out]
        rintro e w1 ⟨rfl, hk1⟩
        go_wp2_with fail
        refine (within_any m 0 100000 _).mono ?_
        rw [HV.out]
        rintro e w2 ⟨rfl, rfl⟩
        go_wp2_with fail
        refine (inForce_any A n c xs fr day known _ (HT.out.kept hk1) hlt).mono ?_
        rw [HFx.out]
        rintro e w3 ⟨rfl, hk3'⟩
        have hk3 := hk1.trans hk3'
        dsimp only [forV, eqV, Option.getD_none, Option.getD_some, Option.isSome_none, Option.isSome_some, zeroE]
        go_wp2_with fail
        refine (inForce_any A n c xs tt day known _ (HT.out.kept (hk3.alloc _)) hlt).mono ?_
        rw [HFy.out]
        rintro e w4 ⟨rfl, hk4⟩
        dsimp only [forV, eqV, Option.getD_none, Option.getD_some, Option.isSome_none, Option.isSome_some, zeroE]
        go_wp2
        go_ret2
        exact ⟨by rw [HO.out]; rfl, (((hk3.alloc _).trans hk4).alloc _)⟩
      · rcases hfy : inForceS xs tt day known with _ | y
        · have HO := Lib.hid (show exS xs fr tt m day known = (0, 10) by unfold exS; rw [← hE, if_pos h0, if_pos hv, hfx, hfy])
          have HFx := Lib.hid hfx
          have HFy := Lib.hid hfy
          clear hfx hfy h0 hE hv
          go_enter Tryz.func68, Tryz.ntmps68
          go_wp2_with fail
          refine (check_any A n c xs _ (HT.out.kept (Kept.refl _))).mono ?_
          rw [← HE.out]
          rintro e w1 ⟨rfl, hk1⟩
          go_wp2_with fail
          refine (within_any m 0 100000 _).mono ?_
          rw [HV.out]
          rintro e w2 ⟨rfl, rfl⟩
          go_wp2_with fail
          refine (inForce_any A n c xs fr day known _ (HT.out.kept hk1) hlt).mono ?_
          rw [HFx.out]
          rintro e w3 ⟨rfl, hk3'⟩
          have hk3 := hk1.trans hk3'
          dsimp only [forV, eqV, Option.getD_none, Option.getD_some, Option.isSome_none, Option.isSome_some, zeroE]
          go_wp2_with fail
          refine (inForce_any A n c xs tt day known _ (HT.out.kept (hk3.alloc _)) hlt).mono ?_
          rw [HFy.out]
          rintro e w4 ⟨rfl, hk4⟩
          dsimp only [forV, eqV, Option.getD_none, Option.getD_some, Option.isSome_none, Option.isSome_some, zeroE]
          go_wp2
          go_ret2
          exact ⟨by rw [HO.out]; rfl, (((hk3.alloc _).trans hk4).alloc _)⟩
        · have HO := Lib.hid (show exS xs fr tt m day known = (ratS (m * x.num) y.den (x.den * y.num), 0) by unfold exS; rw [← hE, if_pos h0, if_pos hv, hfx, hfy])
          have HFx := Lib.hid hfx
          have HFy := Lib.hid hfy
          obtain ⟨m0, m1⟩ := inB_iff.1 hv
          have hc0 : (chkS xs).2 = 0 := by rw [← hE]; exact h0
          obtain ⟨vx, px, qx⟩ := inForce_ok hc0 hfx
          obtain ⟨vy, py, qy⟩ := inForce_ok hc0 hfy
          obtain ⟨⟨bx1, bx2⟩, bx3, bx4⟩ := vld_bd vx
          obtain ⟨⟨by1, by2⟩, by3, by4⟩ := vld_bd vy
          have hxn : x.num ≤ 1000000000 := by omega
          have hyn : y.num ≤ 1000000000 := by omega
          have p1 := mul_bd (n := x.num) (d := m) 1000000000 100000 (by omega) hxn m0 m1 (by omega)
          have p2 := mul_bd (n := y.num) (d := x.den) 1000000000 1000000 (by omega) hyn (by omega) bx2 (by omega)
          have p3 := mul_pos1 bx1 (show 1 ≤ y.num by omega)
          have p4 := Int.mul_nonneg m0 (show 0 ≤ x.num by omega)
          have hbig : m * x.num * y.den < x.den * y.num * 18446744073709551616 := by
            have e1 : m * x.num ≤ 100000 * x.num := Int.mul_le_mul_of_nonneg_right m1 (by omega)
            have e2 : m * x.num ≤ 100000000 * x.den := by omega
            have e3 : m * x.num * y.den ≤ m * x.num * 1000000 := Int.mul_le_mul_of_nonneg_left by2 p4
            have e4 : x.den * 1 ≤ x.den * y.num := Int.mul_le_mul_of_nonneg_left (by omega) (by omega)
            omega
          rw [Int.mul_comm x.num m] at p1
          rw [Int.mul_comm y.num x.den] at p2
          obtain ⟨p11, p12⟩ := p1
          obtain ⟨p21, p22⟩ := p2
          clear hfx hfy h0 hE hv hc0 vx vy
          go_enter Tryz.func68, Tryz.ntmps68
          go_wp2_with fail
          refine (check_any A n c xs _ (HT.out.kept (Kept.refl _))).mono ?_
          rw [← HE.out]
          rintro e w1 ⟨rfl, hk1⟩
          go_wp2_with fail
          refine (within_any m 0 100000 _).mono ?_
          rw [HV.out]
          rintro e w2 ⟨rfl, rfl⟩
          go_wp2_with fail
          refine (inForce_any A n c xs fr day known _ (HT.out.kept hk1) hlt).mono ?_
          rw [HFx.out]
          rintro e w3 ⟨rfl, hk3'⟩
          have hk3 := hk1.trans hk3'
          dsimp only [forV, eqV, Option.getD_none, Option.getD_some, Option.isSome_none, Option.isSome_some, zeroE]
          go_wp2_with fail
          refine (inForce_any A n c xs tt day known _ (HT.out.kept (hk3.alloc _)) hlt).mono ?_
          rw [HFy.out]
          rintro e w4 ⟨rfl, hk4⟩
          dsimp only [forV, eqV, Option.getD_none, Option.getD_some, Option.isSome_none, Option.isSome_some, zeroE]
          have X : RowC w4 w3.heap.size (eqCells x) := RowC.kept (RowC.new w3 (eqCells x) 37) hk4
          have x4 := (X 4 _ rfl).1
          have x5 := (X 5 _ rfl).1
          have hX := cell_lt x4
          clear X
          go_wp2_with fail
          refine (ratio_all (m * x.num) y.den (x.den * y.num) (by omega) (by omega) (by omega) (by omega) (by omega) (by omega) hbig _).mono ?_
          rintro e w5 ⟨rfl, hk5⟩
          go_wp2
          go_ret2
          exact ⟨by rw [HO.out]; rfl, (((hk3.alloc _).trans hk4).alloc _).trans hk5⟩
    · have HO := Lib.hid (show exS xs fr tt m day known = (0, 1) by unfold exS; rw [← hE, if_pos h0, if_neg hv])
      have HV := Lib.hid (show inB m 0 100000 = false by simpa using hv)
      clear h0 hE hv
      go_enter Tryz.func68, Tryz.ntmps68
      go_wp2_with fail
      refine (check_any A n c xs _ (HT.out.kept (Kept.refl _))).mono ?_
      rw [← HE.out]
      rintro e w1 ⟨rfl, hk1⟩
      go_wp2_with fail
      refine (within_any m 0 100000 _).mono ?_
      rw [HV.out]
      rintro e w2 ⟨rfl, rfl⟩
      go_wp2
      go_ret2
      exact ⟨by rw [HO.out]; rfl, hk1⟩
  · have h0' : (E.2 != 0) = true := by simp [h0]
    have HO := Lib.hid (show exS xs fr tt m day known = (0, E.2) by unfold exS; rw [← hE, if_neg h0])
    clear h0 hE
    go_enter Tryz.func68, Tryz.ntmps68
    go_wp2_with fail
    refine (check_any A n c xs _ (HT.out.kept (Kept.refl _))).mono ?_
    rw [← HE.out]
    rintro e w1 ⟨rfl, hk1⟩
    go_wp2
    go_ret2
    exact ⟨by rw [HO.out]; rfl, hk1⟩
end Go.Proofs.YtcjpecdnenemaaaGreatDoor
