/-
  Div64 where the high word is not 0.
-/
import Derived.Test.YtcjpecdnenemaaaGreatDoorGLz
import Derived.Test.YtcjpecdnenemaaaGreatDoorDv0
namespace Go.Proofs.YtcjpecdnenemaaaGreatDoor
set_option linter.all false
open Go.RowKit Go.Shelf

theorem lowhalf (n : Nat) (h : n < 18446744073709551616) : bits .and .u64 (n : Int) 4294967295 = ((n % 4294967296 : Nat) : Int) := by
  have e := bits_and_u64_nat n 4294967295 h (by omega)
  rw [show ((4294967295 : Nat) : Int) = 4294967295 from rfl] at e
  rw [e]
  exact congrArg _ (Nat.and_two_pow_sub_one_eq_mod n 32)
theorem wr64 (n : Nat) (h : n < 18446744073709551616) : IntKind.u64.wrap (n : Int) = (n : Int) := by rw [IntKind.wrap_u64]; omega

theorem wrap_nat (n : Nat) : IntKind.u64.wrap (n : Int) = ((n % 18446744073709551616 : Nat) : Int) := by rw [IntKind.wrap_u64]; omega
set_option maxRecDepth 100000 in
set_option maxHeartbeats 1600000 in
theorem div64_pos (hi lo y : Nat) (h0 : 0 < hi) (h1 : hi < y) (h2 : y < 18446744073709551616) (h3 : lo < 18446744073709551616) (w : World) :
    Calls Tryz.prog 173 #[.int .u64 hi, .int .u64 lo, .int .u64 y] w fun e w' => e = .returned (.tuple #[.int .u64 ((hi * 18446744073709551616 + lo) / y : Nat), .int .u64 ((hi * 18446744073709551616 + lo) % y : Nat)]) ∧ Kept w w' := by
  have a0 : ((y : Int) == 0) = false := by simp; omega
  have a1 : decide ((y : Int) ≤ (hi : Int)) = false := decide_eq_false (by omega)
  have a2 : ((hi : Int) == 0) = false := by simp; omega
  have a3 : ¬ (y : Int) ≤ (hi : Int) := by omega
  obtain ⟨s, s1, s2, s3, s4⟩ := dv_norm y (by omega) h2
  obtain ⟨u1, u2, u3⟩ := dv_shift hi lo y s s1 h3 h1 s4
  obtain ⟨D, hD⟩ : ∃ D, (hi * 18446744073709551616 + lo) / y = D := ⟨_, rfl⟩
  obtain ⟨M, hM⟩ : ∃ M, (hi * 18446744073709551616 + lo) % y = M := ⟨_, rfl⟩
  rw [hD, hM]
  have HD := Lib.hid hD
  have HM := Lib.hid hM
  clear hD hM
  go_enter Tryz.func173, Tryz.ntmps173
  go_wp2_with fail
  refine (Tryz.bits_LeadingZeros64 y _ (by omega) (by omega)).mono ?_
  rw [show ((y : Int).toNat) = y from Int.toNat_natCast y, s2]
  rintro e w1 ⟨rfl, rfl⟩
  obtain ⟨Y, hY⟩ : ∃ Y : Nat, y * 2 ^ s = Y := ⟨_, rfl⟩
  have yI : ((y : Int) * 2 ^ s) = (Y : Int) := by rw [← hY]; push_cast; rfl
  obtain ⟨U, hU⟩ : ∃ U : Nat, hi * 2 ^ s + lo / 2 ^ (64 - s) = U := ⟨_, rfl⟩
  obtain ⟨L, hL⟩ : ∃ L : Nat, lo * 2 ^ s % 18446744073709551616 = L := ⟨_, rfl⟩
  rw [hY] at s3 s4 u2
  rw [hU] at u1 u2 u3
  rw [hL] at u3
  have HY := Lib.hid hY
  have HU := Lib.hid hU
  have HL := Lib.hid hL
  have HYI := Lib.hid yI
  clear hY hU hL yI
  go_upto_region 9 with (fail)
  rw [HYI.out, wr64 Y s4]
  go_upto_region 15 with (fail)
  obtain ⟨n, hn⟩ : ∃ n : Nat, Y / 4294967296 = n := ⟨_, rfl⟩
  obtain ⟨m, hm⟩ : ∃ m : Nat, Y % 4294967296 = m := ⟨_, rfl⟩
  obtain ⟨d1, hd1⟩ : ∃ d : Nat, L / 4294967296 = d := ⟨_, rfl⟩
  obtain ⟨d0, hd0⟩ : ∃ d : Nat, L % 4294967296 = d := ⟨_, rfl⟩
  have eY : Y = n * 4294967296 + m := by omega
  have eL : L = d1 * 4294967296 + d0 := by omega
  have lL : L < 18446744073709551616 := by rw [← HL.out]; exact Nat.mod_lt _ (by omega)
  have ln : 2147483648 ≤ n := by omega
  have ln1 : n < 4294967296 := by omega
  have lm : m < 4294967296 := by omega
  have ld1 : d1 < 4294967296 := by omega
  have ld0 : d0 < 4294967296 := by omega
  have e1 : (Y : Int) / 4294967296 = (n : Int) := by omega
  have e2 : bits .and .u64 (Y : Int) 4294967295 = (m : Int) := by rw [lowhalf Y s4, hm]
  have e4 : IntKind.u64.wrap ((lo : Int) * 2 ^ s) = (L : Int) := by rw [show ((lo : Int) * 2 ^ s) = ((lo * 2 ^ s : Nat) : Int) by push_cast; rfl, wrap_nat, HL.out]
  have e5 : (L : Int) / 4294967296 = (d1 : Int) := by omega
  have e6 : bits .and .u64 (L : Int) 4294967295 = (d0 : Int) := by rw [lowhalf L lL, hd0]
  have e3 : bits .or .u64 (IntKind.u64.wrap ((hi : Int) * 2 ^ s)) ((lo : Int) / 2 ^ (64 - s)) = (U : Int) := by
    have w1 : hi * 2 ^ s < 18446744073709551616 := Nat.lt_of_le_of_lt (Nat.le_add_right _ _) (by rw [HU.out]; omega)
    have w2 : lo / 2 ^ (64 - s) < 18446744073709551616 := Nat.lt_of_le_of_lt (Nat.div_le_self _ _) h3
    have v1 : ((hi : Int) * 2 ^ s) = ((hi * 2 ^ s : Nat) : Int) := by push_cast; rfl
    have v2 : ((lo : Int) / 2 ^ (64 - s)) = ((lo / 2 ^ (64 - s) : Nat) : Int) := by push_cast; rfl
    rw [v1, v2, wr64 _ w1, bits_or_u64_nat _ _ w1 w2, u1]
  rw [e1, e2, e3, e4, e5, e6]
  have b0 : ((n : Int) == 0) = false := by simp; omega
  clear e1 e2 e3 e4 e5 e6 hn hm hd1 hd0
  have hUlt : U < n * 4294967296 + m := by omega
  have E0 := est_start ld1 ln ln1 lm hUlt
  obtain ⟨q, hq⟩ : ∃ q, U / n = q := ⟨_, rfl⟩
  rw [hq] at E0
  obtain ⟨r, hr⟩ : ∃ r, U - q * n = r := ⟨_, rfl⟩
  rw [hr] at E0
  have eq0 : q * n + r = U := E0.eq
  have e7 : IntKind.u64.wrap ((U : Int) / (n : Int)) = (q : Int) := by
    rw [show ((U : Int) / (n : Int)) = ((U / n : Nat) : Int) from (Int.natCast_ediv U n).symm, hq, wr64 q (by rw [← hq]; exact Nat.lt_of_le_of_lt (Nat.div_le_self _ _) (by omega))]
  have e8 : IntKind.u64.wrap ((U : Int) - IntKind.u64.wrap ((q : Int) * (n : Int))) = (r : Int) := by
    rw [show ((q : Int) * (n : Int)) = ((q * n : Nat) : Int) from (Int.natCast_mul q n).symm, wr64 (q * n) (by omega), show ((U : Int) - ((q * n : Nat) : Int)) = (r : Int) by omega, wr64 r (by omega)]
  have HE0 := Lib.hid E0
  clear E0 eq0 hq hr
  go_upto_region 17 with (fail)
  have HUl := Lib.hid hUlt
  obtain ⟨Q, hQ⟩ : ∃ Q, (U * 4294967296 + d1) / (n * 4294967296 + m) = Q := ⟨_, rfl⟩
  obtain ⟨R, hR⟩ : ∃ R, (U * 4294967296 + d1) % (n * 4294967296 + m) = R := ⟨_, rfl⟩
  have hRlt : R < n * 4294967296 + m := by rw [← hR]; exact Nat.mod_lt _ (by omega)
  have hQlt : Q < 4294967296 := by rw [← hQ]; exact est_dig ld1 hUlt
  have hQR : Q * Y + R = U * 4294967296 + d1 := by
    have := Nat.div_add_mod (U * 4294967296 + d1) (n * 4294967296 + m)
    rw [hQ, hR, ← eY, Nat.mul_comm] at this
    exact this
  have HRl := Lib.hid hRlt
  have HQ1 := Lib.hid hQ
  have F3 : IntKind.u64.wrap (IntKind.u64.wrap (IntKind.u64.wrap ((U : Int) * 4294967296) + (d1 : Int)) - IntKind.u64.wrap ((Q : Int) * (Y : Int))) = (R : Int) := by
    rw [show ((Q : Int) * (Y : Int)) = ((Q * Y : Nat) : Int) from (Int.natCast_mul Q Y).symm]
    simp only [IntKind.wrap_u64]
    omega
  have E2 := est_start ld0 ln ln1 lm hRlt
  obtain ⟨q2, hq2⟩ : ∃ q, R / n = q := ⟨_, rfl⟩
  rw [hq2] at E2
  obtain ⟨r2, hr2⟩ : ∃ r, R - q2 * n = r := ⟨_, rfl⟩
  rw [hr2] at E2
  have eq2 : q2 * n + r2 = R := E2.eq
  have F4 : IntKind.u64.wrap ((R : Int) / (n : Int)) = (q2 : Int) := by
    rw [show ((R : Int) / (n : Int)) = ((R / n : Nat) : Int) from (Int.natCast_ediv R n).symm, hq2, wr64 q2 (by rw [← hq2]; exact Nat.lt_of_le_of_lt (Nat.div_le_self _ _) (by omega))]
  have F5 : IntKind.u64.wrap ((R : Int) - IntKind.u64.wrap ((q2 : Int) * (n : Int))) = (r2 : Int) := by
    rw [show ((q2 : Int) * (n : Int)) = ((q2 * n : Nat) : Int) from (Int.natCast_mul q2 n).symm, wr64 (q2 * n) (by omega), show ((R : Int) - ((q2 * n : Nat) : Int)) = (r2 : Int) by omega, wr64 r2 (by omega)]
  have HE2 := Lib.hid E2
  obtain ⟨P, hP⟩ : ∃ P, (R * 4294967296 + d0) / (n * 4294967296 + m) = P := ⟨_, rfl⟩
  obtain ⟨S, hS⟩ : ∃ S, (R * 4294967296 + d0) % (n * 4294967296 + m) = S := ⟨_, rfl⟩
  have hPlt : P < 4294967296 := by rw [← hP]; exact est_dig ld0 hRlt
  have hPS : P * Y + S = R * 4294967296 + d0 := by
    have := Nat.div_add_mod (R * 4294967296 + d0) (n * 4294967296 + m)
    rw [hP, hS, ← eY, Nat.mul_comm] at this
    exact this
  have HQ0 := Lib.hid hP
  have hSlt : S < Y := by rw [← hS, eY]; exact Nat.mod_lt _ (by omega)
  have F6 : IntKind.u64.wrap (IntKind.u64.wrap (IntKind.u64.wrap ((R : Int) * 4294967296) + (d0 : Int)) - IntKind.u64.wrap ((P : Int) * (Y : Int))) = (S : Int) := by
    rw [show ((P : Int) * (Y : Int)) = ((P * Y : Nat) : Int) from (Int.natCast_mul P Y).symm]
    simp only [IntKind.wrap_u64]
    omega
  have hres : Q * 4294967296 + P = (hi * 18446744073709551616 + lo) / y ∧ S / 2 ^ s = (hi * 18446744073709551616 + lo) % y := by
    obtain ⟨t1, t2⟩ := two_digits U d1 d0 Y (by omega)
    rw [← eL, u3, eY, hQ, hR, hP, ← eY, ← HY.out, Nat.mul_div_mul_right _ _ (Nat.two_pow_pos s)] at t1
    rw [← eL, u3, eY, hR, hS, ← eY, ← HY.out, Nat.mul_mod_mul_right] at t2
    exact ⟨t1, by rw [t2, Nat.mul_div_cancel _ (Nat.two_pow_pos s)]⟩
  rw [HD.out, HM.out] at hres
  have F9 : ((Q : Int) * 4294967296 + (P : Int)) = (D : Int) := by rw [← hres.1]; omega
  have F7 : IntKind.u64.wrap ((Q : Int) * 4294967296 + (P : Int)) = (D : Int) := by
    rw [← hres.1]
    simp only [IntKind.wrap_u64]
    omega
  have FA : IntKind.u64.wrap (IntKind.u64.wrap ((Q : Int) * 4294967296) + (P : Int)) = (D : Int) := by
    rw [← hres.1]
    simp only [IntKind.wrap_u64]
    omega
  have FB : IntKind.u64.wrap (D : Int) = (D : Int) := by rw [← F9, F7]; exact F9.symm
  have F8 : ((S : Int) / 2 ^ s) = (M : Int) := by
    rw [← hres.2]; push_cast; rfl
  have HF := Lib.hid (And.intro F3 (And.intro F4 (And.intro F5 (And.intro F6 (And.intro F7 (And.intro F8 (And.intro F9 (And.intro FA FB))))))))
  clear F3 F4 F5 F6 F7 F8 F9 FA FB hres hSlt hPS hPlt hQR hQlt hRlt hQ hR hP hS E2 eq2 hq2 hr2
  have HB := Lib.hid (And.intro (And.intro u2 u3) (And.intro eY (And.intro eL s3)))
  clear e7 e8 u1 u2 u3 eY eL s3 s2 hUlt
  go_loopw [15, 16] (fun qv rv wr => ∃ q r : Nat, qv = .int .u64 q ∧ rv = .int .u64 r ∧ Est U d1 n m q r ∧ wr = w1) (fun qv _ _ => (intOf qv).toNat)
  case atStart => exact ⟨q, r, rfl, rfl, HE0.out, rfl⟩
  case round =>
    obtain ⟨q, r, rfl, rfl, hE, rfl⟩ := hrel
    have HE := Lib.hid hE
    clear hE HE0
    have eq2 := HE.out.le
    have eq3 := HE.out.lt
    have d1l := ld1
    have lml := lm
    by_cases hb : 4294967296 ≤ q
    · have hm : 4294967296 ≤ q ∨ 4294967296 * r + d1 < q * m := .inl hb
      have hq0 : 0 < q := by omega
      have g0 : (4294967296 : Int) ≤ (q : Int) := by omega
      clear hb
      by_cases hr : r + n < 4294967296
      · have f2 : IntKind.u64.wrap ((r : Int) + (n : Int)) = ((r + n : Nat) : Int) := by rw [← Int.natCast_add, wr64 _ (by omega)]
        have f1 : IntKind.u64.wrap ((q : Int) - 1) = ((q - 1 : Nat) : Int) := by rw [show ((q : Int) - 1) = ((q - 1 : Nat) : Int) by omega, wr64 _ (by omega)]
        have hE2 := est_next HE.out d1l HUl.out hm hr
        have c1 : ¬ (4294967296 : Int) ≤ ((r + n : Nat) : Int) := by omega
        obtain ⟨p, hp⟩ : ∃ p, q - 1 = p := ⟨_, rfl⟩
        obtain ⟨t, ht2⟩ : ∃ t, r + n = t := ⟨_, rfl⟩
        have hpq : p < q := by omega
        rw [hp, ht2] at hE2
        rw [ht2] at f2 c1
        rw [hp] at f1
        have HE2 := Lib.hid hE2
        have HPQ := Lib.hid hpq
        clear hE2 hp ht2 hr hm hq0 hpq eq2 eq3
        go_wp2
        go_roundw
        case rel => exact ⟨p, t, rfl, rfl, HE2.out, by first | rfl | trivial⟩
        case measure => simpa [intOf] using HPQ.out
      · have hQ9 := est_break HE.out d1l lml HUl.out hm (by omega)
        rw [HQ1.out] at hQ9
        have f2 : IntKind.u64.wrap ((r : Int) + (n : Int)) = ((r + n : Nat) : Int) := by rw [← Int.natCast_add, wr64 _ (by omega)]
        have f1 : IntKind.u64.wrap ((q : Int) - 1) = (Q : Int) := by rw [show ((q : Int) - 1) = ((q - 1 : Nat) : Int) by omega, wr64 _ (by omega), hQ9]
        have c1 : (4294967296 : Int) ≤ ((r + n : Nat) : Int) := by omega
        obtain ⟨t, ht2⟩ : ∃ t, r + n = t := ⟨_, rfl⟩
        rw [ht2] at f2 c1
        clear ht2 hr hm hq0 hQ9 eq2 eq3 HE
        obtain ⟨F3, F4, F5, F6, F7, F8, F9, FA, FB⟩ := HF.out
        go_upto_region 24 with (fail)
        clear F3 F4 F5
        go_loopw [16, 18] (fun rv qv wx => ∃ q r : Nat, qv = .int .u64 q ∧ rv = .int .u64 r ∧ Est R d0 n m q r ∧ wx = wr) (fun _ qv _ => (intOf qv).toNat)
        case atStart => exact ⟨q2, r2, rfl, rfl, HE2.out, by first | rfl | trivial⟩
        case round =>
          obtain ⟨q, r, rfl, rfl, hE, rfl⟩ := hrel
          have HE := Lib.hid hE
          clear hE HE2
          have eq2 := HE.out.le
          have eq3 := HE.out.lt
          have d0l := ld0
          have lml := lm
          by_cases hb : 4294967296 ≤ q
          · have hm : 4294967296 ≤ q ∨ 4294967296 * r + d0 < q * m := .inl hb
            have hq0 : 0 < q := by omega
            have g0 : (4294967296 : Int) ≤ (q : Int) := by omega
            clear hb
            by_cases hr : r + n < 4294967296
            · have f2 : IntKind.u64.wrap ((r : Int) + (n : Int)) = ((r + n : Nat) : Int) := by rw [← Int.natCast_add, wr64 _ (by omega)]
              have f1 : IntKind.u64.wrap ((q : Int) - 1) = ((q - 1 : Nat) : Int) := by rw [show ((q : Int) - 1) = ((q - 1 : Nat) : Int) by omega, wr64 _ (by omega)]
              have hE2 := est_next HE.out d0l HRl.out hm hr
              have c1 : ¬ (4294967296 : Int) ≤ ((r + n : Nat) : Int) := by omega
              obtain ⟨p, hp⟩ : ∃ p, q - 1 = p := ⟨_, rfl⟩
              obtain ⟨t, ht2⟩ : ∃ t, r + n = t := ⟨_, rfl⟩
              have hpq : p < q := by omega
              rw [hp, ht2] at hE2
              rw [ht2] at f2 c1
              rw [hp] at f1
              have HE2 := Lib.hid hE2
              have HPQ := Lib.hid hpq
              clear hE2 hp ht2 hr hm hq0 hpq eq2 eq3
              go_wp2
              go_roundw
              case rel => exact ⟨p, t, rfl, rfl, HE2.out, by first | rfl | trivial⟩
              case measure => simpa [intOf] using HPQ.out
            · have hQ9 := est_break HE.out d0l lml HRl.out hm (by omega)
              rw [HQ0.out] at hQ9
              have f2 : IntKind.u64.wrap ((r : Int) + (n : Int)) = ((r + n : Nat) : Int) := by rw [← Int.natCast_add, wr64 _ (by omega)]
              have f1 : IntKind.u64.wrap ((q : Int) - 1) = (P : Int) := by rw [show ((q : Int) - 1) = ((q - 1 : Nat) : Int) by omega, wr64 _ (by omega), hQ9]
              have c1 : (4294967296 : Int) ≤ ((r + n : Nat) : Int) := by omega
              obtain ⟨t, ht2⟩ : ∃ t, r + n = t := ⟨_, rfl⟩
              rw [ht2] at f2 c1
              clear ht2 hr hm hq0 hQ9 eq2 eq3 HE
              go_wp2
              go_ret2
              exact ⟨rfl, Kept.refl _⟩
          · have g0 : ¬ (4294967296 : Int) ≤ (q : Int) := by omega
            have hX : q * m < 18446744073709551616 := by
              have h8 : q * m ≤ 4294967296 * m := Nat.mul_le_mul_right m (by omega)
              omega
            have f0 : IntKind.u64.wrap ((q : Int) * (m : Int)) = ((q * m : Nat) : Int) := by rw [← Int.natCast_mul, wr64 _ hX]
            have f8 : IntKind.u64.wrap (4294967296 * (r : Int)) = 4294967296 * (r : Int) := by rw [show (4294967296 * (r : Int)) = ((4294967296 * r : Nat) : Int) by omega, wr64 _ (by omega)]
            have f9 : IntKind.u64.wrap (4294967296 * (r : Int) + (d0 : Int)) = 4294967296 * (r : Int) + (d0 : Int) := by rw [show (4294967296 * (r : Int) + (d0 : Int)) = ((4294967296 * r + d0 : Nat) : Int) by omega, wr64 _ (by omega)]
            by_cases ht : 4294967296 * r + d0 < q * m
            · have hm : 4294967296 ≤ q ∨ 4294967296 * r + d0 < q * m := .inr ht
              have hq0 : 0 < q := (est_more HE.out d0l HRl.out hm).1
              have g1 : 4294967296 * (r : Int) + (d0 : Int) < ((q * m : Nat) : Int) := by omega
              obtain ⟨X, hXX⟩ : ∃ X, q * m = X := ⟨_, rfl⟩
              rw [hXX] at f0 g1
              clear hb ht hX hXX
              by_cases hr : r + n < 4294967296
              · have f2 : IntKind.u64.wrap ((r : Int) + (n : Int)) = ((r + n : Nat) : Int) := by rw [← Int.natCast_add, wr64 _ (by omega)]
                have f1 : IntKind.u64.wrap ((q : Int) - 1) = ((q - 1 : Nat) : Int) := by rw [show ((q : Int) - 1) = ((q - 1 : Nat) : Int) by omega, wr64 _ (by omega)]
                have hE2 := est_next HE.out d0l HRl.out hm hr
                have c1 : ¬ (4294967296 : Int) ≤ ((r + n : Nat) : Int) := by omega
                obtain ⟨p, hp⟩ : ∃ p, q - 1 = p := ⟨_, rfl⟩
                obtain ⟨t, ht2⟩ : ∃ t, r + n = t := ⟨_, rfl⟩
                have hpq : p < q := by omega
                rw [hp, ht2] at hE2
                rw [ht2] at f2 c1
                rw [hp] at f1
                have HE2 := Lib.hid hE2
                have HPQ := Lib.hid hpq
                clear hE2 hp ht2 hr hm hq0 hpq eq2 eq3
                go_wp2
                go_roundw
                case rel => exact ⟨p, t, rfl, rfl, HE2.out, by first | rfl | trivial⟩
                case measure => simpa [intOf] using HPQ.out
              · have hQ9 := est_break HE.out d0l lml HRl.out hm (by omega)
                rw [HQ0.out] at hQ9
                have f2 : IntKind.u64.wrap ((r : Int) + (n : Int)) = ((r + n : Nat) : Int) := by rw [← Int.natCast_add, wr64 _ (by omega)]
                have f1 : IntKind.u64.wrap ((q : Int) - 1) = (P : Int) := by rw [show ((q : Int) - 1) = ((q - 1 : Nat) : Int) by omega, wr64 _ (by omega), hQ9]
                have c1 : (4294967296 : Int) ≤ ((r + n : Nat) : Int) := by omega
                obtain ⟨t, ht2⟩ : ∃ t, r + n = t := ⟨_, rfl⟩
                rw [ht2] at f2 c1
                clear ht2 hr hm hq0 hQ9 eq2 eq3 HE
                go_wp2
                go_ret2
                exact ⟨rfl, Kept.refl _⟩
            · have g1 : ¬ 4294967296 * (r : Int) + (d0 : Int) < ((q * m : Nat) : Int) := by omega
              have hQ9 := est_done HE.out (by omega) (by omega)
              rw [HQ0.out] at hQ9
              obtain ⟨X, hXX⟩ : ∃ X, q * m = X := ⟨_, rfl⟩
              rw [hXX] at f0 g1
              clear hb ht hX hXX eq2 eq3 HE
              rw [hQ9] at f0 g0 ⊢
              clear hQ9
              go_wp2
              go_ret2
              exact ⟨rfl, Kept.refl _⟩
    · have g0 : ¬ (4294967296 : Int) ≤ (q : Int) := by omega
      have hX : q * m < 18446744073709551616 := by
        have h8 : q * m ≤ 4294967296 * m := Nat.mul_le_mul_right m (by omega)
        omega
      have f0 : IntKind.u64.wrap ((q : Int) * (m : Int)) = ((q * m : Nat) : Int) := by rw [← Int.natCast_mul, wr64 _ hX]
      have f8 : IntKind.u64.wrap (4294967296 * (r : Int)) = 4294967296 * (r : Int) := by rw [show (4294967296 * (r : Int)) = ((4294967296 * r : Nat) : Int) by omega, wr64 _ (by omega)]
      have f9 : IntKind.u64.wrap (4294967296 * (r : Int) + (d1 : Int)) = 4294967296 * (r : Int) + (d1 : Int) := by rw [show (4294967296 * (r : Int) + (d1 : Int)) = ((4294967296 * r + d1 : Nat) : Int) by omega, wr64 _ (by omega)]
      by_cases ht : 4294967296 * r + d1 < q * m
      · have hm : 4294967296 ≤ q ∨ 4294967296 * r + d1 < q * m := .inr ht
        have hq0 : 0 < q := (est_more HE.out d1l HUl.out hm).1
        have g1 : 4294967296 * (r : Int) + (d1 : Int) < ((q * m : Nat) : Int) := by omega
        obtain ⟨X, hXX⟩ : ∃ X, q * m = X := ⟨_, rfl⟩
        rw [hXX] at f0 g1
        clear hb ht hX hXX
        by_cases hr : r + n < 4294967296
        · have f2 : IntKind.u64.wrap ((r : Int) + (n : Int)) = ((r + n : Nat) : Int) := by rw [← Int.natCast_add, wr64 _ (by omega)]
          have f1 : IntKind.u64.wrap ((q : Int) - 1) = ((q - 1 : Nat) : Int) := by rw [show ((q : Int) - 1) = ((q - 1 : Nat) : Int) by omega, wr64 _ (by omega)]
          have hE2 := est_next HE.out d1l HUl.out hm hr
          have c1 : ¬ (4294967296 : Int) ≤ ((r + n : Nat) : Int) := by omega
          obtain ⟨p, hp⟩ : ∃ p, q - 1 = p := ⟨_, rfl⟩
          obtain ⟨t, ht2⟩ : ∃ t, r + n = t := ⟨_, rfl⟩
          have hpq : p < q := by omega
          rw [hp, ht2] at hE2
          rw [ht2] at f2 c1
          rw [hp] at f1
          have HE2 := Lib.hid hE2
          have HPQ := Lib.hid hpq
          clear hE2 hp ht2 hr hm hq0 hpq eq2 eq3
          go_wp2
          go_roundw
          case rel => exact ⟨p, t, rfl, rfl, HE2.out, by first | rfl | trivial⟩
          case measure => simpa [intOf] using HPQ.out
        · have hQ9 := est_break HE.out d1l lml HUl.out hm (by omega)
          rw [HQ1.out] at hQ9
          have f2 : IntKind.u64.wrap ((r : Int) + (n : Int)) = ((r + n : Nat) : Int) := by rw [← Int.natCast_add, wr64 _ (by omega)]
          have f1 : IntKind.u64.wrap ((q : Int) - 1) = (Q : Int) := by rw [show ((q : Int) - 1) = ((q - 1 : Nat) : Int) by omega, wr64 _ (by omega), hQ9]
          have c1 : (4294967296 : Int) ≤ ((r + n : Nat) : Int) := by omega
          obtain ⟨t, ht2⟩ : ∃ t, r + n = t := ⟨_, rfl⟩
          rw [ht2] at f2 c1
          clear ht2 hr hm hq0 hQ9 eq2 eq3 HE
          obtain ⟨F3, F4, F5, F6, F7, F8, F9, FA, FB⟩ := HF.out
          go_upto_region 24 with (fail)
          clear F3 F4 F5
          go_loopw [16, 18] (fun rv qv wx => ∃ q r : Nat, qv = .int .u64 q ∧ rv = .int .u64 r ∧ Est R d0 n m q r ∧ wx = wr) (fun _ qv _ => (intOf qv).toNat)
          case atStart => exact ⟨q2, r2, rfl, rfl, HE2.out, by first | rfl | trivial⟩
          case round =>
            obtain ⟨q, r, rfl, rfl, hE, rfl⟩ := hrel
            have HE := Lib.hid hE
            clear hE HE2
            have eq2 := HE.out.le
            have eq3 := HE.out.lt
            have d0l := ld0
            have lml := lm
            by_cases hb : 4294967296 ≤ q
            · have hm : 4294967296 ≤ q ∨ 4294967296 * r + d0 < q * m := .inl hb
              have hq0 : 0 < q := by omega
              have g0 : (4294967296 : Int) ≤ (q : Int) := by omega
              clear hb
              by_cases hr : r + n < 4294967296
              · have f2 : IntKind.u64.wrap ((r : Int) + (n : Int)) = ((r + n : Nat) : Int) := by rw [← Int.natCast_add, wr64 _ (by omega)]
                have f1 : IntKind.u64.wrap ((q : Int) - 1) = ((q - 1 : Nat) : Int) := by rw [show ((q : Int) - 1) = ((q - 1 : Nat) : Int) by omega, wr64 _ (by omega)]
                have hE2 := est_next HE.out d0l HRl.out hm hr
                have c1 : ¬ (4294967296 : Int) ≤ ((r + n : Nat) : Int) := by omega
                obtain ⟨p, hp⟩ : ∃ p, q - 1 = p := ⟨_, rfl⟩
                obtain ⟨t, ht2⟩ : ∃ t, r + n = t := ⟨_, rfl⟩
                have hpq : p < q := by omega
                rw [hp, ht2] at hE2
                rw [ht2] at f2 c1
                rw [hp] at f1
                have HE2 := Lib.hid hE2
                have HPQ := Lib.hid hpq
                clear hE2 hp ht2 hr hm hq0 hpq eq2 eq3
                go_wp2
                go_roundw
                case rel => exact ⟨p, t, rfl, rfl, HE2.out, by first | rfl | trivial⟩
                case measure => simpa [intOf] using HPQ.out
              · have hQ9 := est_break HE.out d0l lml HRl.out hm (by omega)
                rw [HQ0.out] at hQ9
                have f2 : IntKind.u64.wrap ((r : Int) + (n : Int)) = ((r + n : Nat) : Int) := by rw [← Int.natCast_add, wr64 _ (by omega)]
                have f1 : IntKind.u64.wrap ((q : Int) - 1) = (P : Int) := by rw [show ((q : Int) - 1) = ((q - 1 : Nat) : Int) by omega, wr64 _ (by omega), hQ9]
                have c1 : (4294967296 : Int) ≤ ((r + n : Nat) : Int) := by omega
                obtain ⟨t, ht2⟩ : ∃ t, r + n = t := ⟨_, rfl⟩
                rw [ht2] at f2 c1
                clear ht2 hr hm hq0 hQ9 eq2 eq3 HE
                go_wp2
                go_ret2
                exact ⟨rfl, Kept.refl _⟩
            · have g0 : ¬ (4294967296 : Int) ≤ (q : Int) := by omega
              have hX : q * m < 18446744073709551616 := by
                have h8 : q * m ≤ 4294967296 * m := Nat.mul_le_mul_right m (by omega)
                omega
              have f0 : IntKind.u64.wrap ((q : Int) * (m : Int)) = ((q * m : Nat) : Int) := by rw [← Int.natCast_mul, wr64 _ hX]
              have f8 : IntKind.u64.wrap (4294967296 * (r : Int)) = 4294967296 * (r : Int) := by rw [show (4294967296 * (r : Int)) = ((4294967296 * r : Nat) : Int) by omega, wr64 _ (by omega)]
              have f9 : IntKind.u64.wrap (4294967296 * (r : Int) + (d0 : Int)) = 4294967296 * (r : Int) + (d0 : Int) := by rw [show (4294967296 * (r : Int) + (d0 : Int)) = ((4294967296 * r + d0 : Nat) : Int) by omega, wr64 _ (by omega)]
              by_cases ht : 4294967296 * r + d0 < q * m
              · have hm : 4294967296 ≤ q ∨ 4294967296 * r + d0 < q * m := .inr ht
                have hq0 : 0 < q := (est_more HE.out d0l HRl.out hm).1
                have g1 : 4294967296 * (r : Int) + (d0 : Int) < ((q * m : Nat) : Int) := by omega
                obtain ⟨X, hXX⟩ : ∃ X, q * m = X := ⟨_, rfl⟩
                rw [hXX] at f0 g1
                clear hb ht hX hXX
                by_cases hr : r + n < 4294967296
                · have f2 : IntKind.u64.wrap ((r : Int) + (n : Int)) = ((r + n : Nat) : Int) := by rw [← Int.natCast_add, wr64 _ (by omega)]
                  have f1 : IntKind.u64.wrap ((q : Int) - 1) = ((q - 1 : Nat) : Int) := by rw [show ((q : Int) - 1) = ((q - 1 : Nat) : Int) by omega, wr64 _ (by omega)]
                  have hE2 := est_next HE.out d0l HRl.out hm hr
                  have c1 : ¬ (4294967296 : Int) ≤ ((r + n : Nat) : Int) := by omega
                  obtain ⟨p, hp⟩ : ∃ p, q - 1 = p := ⟨_, rfl⟩
                  obtain ⟨t, ht2⟩ : ∃ t, r + n = t := ⟨_, rfl⟩
                  have hpq : p < q := by omega
                  rw [hp, ht2] at hE2
                  rw [ht2] at f2 c1
                  rw [hp] at f1
                  have HE2 := Lib.hid hE2
                  have HPQ := Lib.hid hpq
                  clear hE2 hp ht2 hr hm hq0 hpq eq2 eq3
                  go_wp2
                  go_roundw
                  case rel => exact ⟨p, t, rfl, rfl, HE2.out, by first | rfl | trivial⟩
                  case measure => simpa [intOf] using HPQ.out
                · have hQ9 := est_break HE.out d0l lml HRl.out hm (by omega)
                  rw [HQ0.out] at hQ9
                  have f2 : IntKind.u64.wrap ((r : Int) + (n : Int)) = ((r + n : Nat) : Int) := by rw [← Int.natCast_add, wr64 _ (by omega)]
                  have f1 : IntKind.u64.wrap ((q : Int) - 1) = (P : Int) := by rw [show ((q : Int) - 1) = ((q - 1 : Nat) : Int) by omega, wr64 _ (by omega), hQ9]
                  have c1 : (4294967296 : Int) ≤ ((r + n : Nat) : Int) := by omega
                  obtain ⟨t, ht2⟩ : ∃ t, r + n = t := ⟨_, rfl⟩
                  rw [ht2] at f2 c1
                  clear ht2 hr hm hq0 hQ9 eq2 eq3 HE
                  go_wp2
                  go_ret2
                  exact ⟨rfl, Kept.refl _⟩
              · have g1 : ¬ 4294967296 * (r : Int) + (d0 : Int) < ((q * m : Nat) : Int) := by omega
                have hQ9 := est_done HE.out (by omega) (by omega)
                rw [HQ0.out] at hQ9
                obtain ⟨X, hXX⟩ : ∃ X, q * m = X := ⟨_, rfl⟩
                rw [hXX] at f0 g1
                clear hb ht hX hXX eq2 eq3 HE
                rw [hQ9] at f0 g0 ⊢
                clear hQ9
                go_wp2
                go_ret2
                exact ⟨rfl, Kept.refl _⟩
      · have g1 : ¬ 4294967296 * (r : Int) + (d1 : Int) < ((q * m : Nat) : Int) := by omega
        have hQ9 := est_done HE.out (by omega) (by omega)
        rw [HQ1.out] at hQ9
        obtain ⟨X, hXX⟩ : ∃ X, q * m = X := ⟨_, rfl⟩
        rw [hXX] at f0 g1
        clear hb ht hX hXX eq2 eq3 HE
        rw [hQ9] at f0 g0 ⊢
        clear hQ9
        obtain ⟨F3, F4, F5, F6, F7, F8, F9, FA, FB⟩ := HF.out
        go_upto_region 24 with (fail)
        clear F3 F4 F5
        go_loopw [16, 18] (fun rv qv wx => ∃ q r : Nat, qv = .int .u64 q ∧ rv = .int .u64 r ∧ Est R d0 n m q r ∧ wx = wr) (fun _ qv _ => (intOf qv).toNat)
        case atStart => exact ⟨q2, r2, rfl, rfl, HE2.out, by first | rfl | trivial⟩
        case round =>
          obtain ⟨q, r, rfl, rfl, hE, rfl⟩ := hrel
          have HE := Lib.hid hE
          clear hE HE2
          have eq2 := HE.out.le
          have eq3 := HE.out.lt
          have d0l := ld0
          have lml := lm
          by_cases hb : 4294967296 ≤ q
          · have hm : 4294967296 ≤ q ∨ 4294967296 * r + d0 < q * m := .inl hb
            have hq0 : 0 < q := by omega
            have g0 : (4294967296 : Int) ≤ (q : Int) := by omega
            clear hb
            by_cases hr : r + n < 4294967296
            · have f2 : IntKind.u64.wrap ((r : Int) + (n : Int)) = ((r + n : Nat) : Int) := by rw [← Int.natCast_add, wr64 _ (by omega)]
              have f1 : IntKind.u64.wrap ((q : Int) - 1) = ((q - 1 : Nat) : Int) := by rw [show ((q : Int) - 1) = ((q - 1 : Nat) : Int) by omega, wr64 _ (by omega)]
              have hE2 := est_next HE.out d0l HRl.out hm hr
              have c1 : ¬ (4294967296 : Int) ≤ ((r + n : Nat) : Int) := by omega
              obtain ⟨p, hp⟩ : ∃ p, q - 1 = p := ⟨_, rfl⟩
              obtain ⟨t, ht2⟩ : ∃ t, r + n = t := ⟨_, rfl⟩
              have hpq : p < q := by omega
              rw [hp, ht2] at hE2
              rw [ht2] at f2 c1
              rw [hp] at f1
              have HE2 := Lib.hid hE2
              have HPQ := Lib.hid hpq
              clear hE2 hp ht2 hr hm hq0 hpq eq2 eq3
              go_wp2
              go_roundw
              case rel => exact ⟨p, t, rfl, rfl, HE2.out, by first | rfl | trivial⟩
              case measure => simpa [intOf] using HPQ.out
            · have hQ9 := est_break HE.out d0l lml HRl.out hm (by omega)
              rw [HQ0.out] at hQ9
              have f2 : IntKind.u64.wrap ((r : Int) + (n : Int)) = ((r + n : Nat) : Int) := by rw [← Int.natCast_add, wr64 _ (by omega)]
              have f1 : IntKind.u64.wrap ((q : Int) - 1) = (P : Int) := by rw [show ((q : Int) - 1) = ((q - 1 : Nat) : Int) by omega, wr64 _ (by omega), hQ9]
              have c1 : (4294967296 : Int) ≤ ((r + n : Nat) : Int) := by omega
              obtain ⟨t, ht2⟩ : ∃ t, r + n = t := ⟨_, rfl⟩
              rw [ht2] at f2 c1
              clear ht2 hr hm hq0 hQ9 eq2 eq3 HE
              go_wp2
              go_ret2
              exact ⟨rfl, Kept.refl _⟩
          · have g0 : ¬ (4294967296 : Int) ≤ (q : Int) := by omega
            have hX : q * m < 18446744073709551616 := by
              have h8 : q * m ≤ 4294967296 * m := Nat.mul_le_mul_right m (by omega)
              omega
            have f0 : IntKind.u64.wrap ((q : Int) * (m : Int)) = ((q * m : Nat) : Int) := by rw [← Int.natCast_mul, wr64 _ hX]
            have f8 : IntKind.u64.wrap (4294967296 * (r : Int)) = 4294967296 * (r : Int) := by rw [show (4294967296 * (r : Int)) = ((4294967296 * r : Nat) : Int) by omega, wr64 _ (by omega)]
            have f9 : IntKind.u64.wrap (4294967296 * (r : Int) + (d0 : Int)) = 4294967296 * (r : Int) + (d0 : Int) := by rw [show (4294967296 * (r : Int) + (d0 : Int)) = ((4294967296 * r + d0 : Nat) : Int) by omega, wr64 _ (by omega)]
            by_cases ht : 4294967296 * r + d0 < q * m
            · have hm : 4294967296 ≤ q ∨ 4294967296 * r + d0 < q * m := .inr ht
              have hq0 : 0 < q := (est_more HE.out d0l HRl.out hm).1
              have g1 : 4294967296 * (r : Int) + (d0 : Int) < ((q * m : Nat) : Int) := by omega
              obtain ⟨X, hXX⟩ : ∃ X, q * m = X := ⟨_, rfl⟩
              rw [hXX] at f0 g1
              clear hb ht hX hXX
              by_cases hr : r + n < 4294967296
              · have f2 : IntKind.u64.wrap ((r : Int) + (n : Int)) = ((r + n : Nat) : Int) := by rw [← Int.natCast_add, wr64 _ (by omega)]
                have f1 : IntKind.u64.wrap ((q : Int) - 1) = ((q - 1 : Nat) : Int) := by rw [show ((q : Int) - 1) = ((q - 1 : Nat) : Int) by omega, wr64 _ (by omega)]
                have hE2 := est_next HE.out d0l HRl.out hm hr
                have c1 : ¬ (4294967296 : Int) ≤ ((r + n : Nat) : Int) := by omega
                obtain ⟨p, hp⟩ : ∃ p, q - 1 = p := ⟨_, rfl⟩
                obtain ⟨t, ht2⟩ : ∃ t, r + n = t := ⟨_, rfl⟩
                have hpq : p < q := by omega
                rw [hp, ht2] at hE2
                rw [ht2] at f2 c1
                rw [hp] at f1
                have HE2 := Lib.hid hE2
                have HPQ := Lib.hid hpq
                clear hE2 hp ht2 hr hm hq0 hpq eq2 eq3
                go_wp2
                go_roundw
                case rel => exact ⟨p, t, rfl, rfl, HE2.out, by first | rfl | trivial⟩
                case measure => simpa [intOf] using HPQ.out
              · have hQ9 := est_break HE.out d0l lml HRl.out hm (by omega)
                rw [HQ0.out] at hQ9
                have f2 : IntKind.u64.wrap ((r : Int) + (n : Int)) = ((r + n : Nat) : Int) := by rw [← Int.natCast_add, wr64 _ (by omega)]
                have f1 : IntKind.u64.wrap ((q : Int) - 1) = (P : Int) := by rw [show ((q : Int) - 1) = ((q - 1 : Nat) : Int) by omega, wr64 _ (by omega), hQ9]
                have c1 : (4294967296 : Int) ≤ ((r + n : Nat) : Int) := by omega
                obtain ⟨t, ht2⟩ : ∃ t, r + n = t := ⟨_, rfl⟩
                rw [ht2] at f2 c1
                clear ht2 hr hm hq0 hQ9 eq2 eq3 HE
                go_wp2
                go_ret2
                exact ⟨rfl, Kept.refl _⟩
            · have g1 : ¬ 4294967296 * (r : Int) + (d0 : Int) < ((q * m : Nat) : Int) := by omega
              have hQ9 := est_done HE.out (by omega) (by omega)
              rw [HQ0.out] at hQ9
              obtain ⟨X, hXX⟩ : ∃ X, q * m = X := ⟨_, rfl⟩
              rw [hXX] at f0 g1
              clear hb ht hX hXX eq2 eq3 HE
              rw [hQ9] at f0 g0 ⊢
              clear hQ9
              go_wp2
              go_ret2
              exact ⟨rfl, Kept.refl _⟩
end Go.Proofs.YtcjpecdnenemaaaGreatDoor
