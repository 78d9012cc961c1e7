/-
  Div64 for every high word, ratio and Exchange for every product; the reference's Most, atMost and Exchange; the law ShareMost.
-/
import Derived.Test.YtcjpecdnenemaaaGreatDoorGN
import Derived.Lib.ItoaNum
import Derived.Laws.Bits64b
import Derived.Test.YtcjpecdnenemaaaGreatDoorGLz
import Derived.Test.YtcjpecdnenemaaaGreatDoorRU
namespace Go.Proofs.YtcjpecdnenemaaaGreatDoor
set_option linter.all false

/-- so many places does the divisor want to the left -/
theorem dv_norm (y : Nat) (h0 : 0 < y) (h1 : y < 18446744073709551616) :
    ∃ s : Nat, s ≤ 63 ∧ (64 : Int) - (Lib.bitLen y : Int) = (s : Int) ∧ 9223372036854775808 ≤ y * 2 ^ s ∧ y * 2 ^ s < 18446744073709551616 := by
  obtain ⟨a, b, c⟩ := Lib.bitLenAux_bounds 64 y (by omega) (by omega)
  have d : Lib.bitLen y ≤ 64 := Lib.bitLen_le y 64 (by omega) (by omega)
  unfold Lib.bitLen at d ⊢
  generalize Lib.bitLenAux 64 y = L at a b c d ⊢
  refine ⟨64 - L, by omega, by omega, ?_, ?_⟩
  · have e : 2 ^ (L - 1) * 2 ^ (64 - L) = 9223372036854775808 := by rw [← Nat.pow_add, show L - 1 + (64 - L) = 63 by omega]
    rw [← e]
    exact Nat.mul_le_mul_right _ b
  · have e : 2 ^ L * 2 ^ (64 - L) = 18446744073709551616 := by rw [← Nat.pow_add, show L + (64 - L) = 64 by omega]
    rw [← e]
    exact Nat.mul_lt_mul_of_pos_right c (Nat.two_pow_pos _)

/-- the estimate and what is left of it, for the digit d behind u, divided by n * B + m -/
structure Est (u d n m q r : Nat) : Prop where
  eq : q * n + r = u
  ge : (u * 4294967296 + d) / (n * 4294967296 + m) ≤ q
  le : q ≤ 4294967297
  lt : r < 4294967296

theorem est_mul (q r n m : Nat) : q * (n * 4294967296 + m) = q * n * 4294967296 + q * m := by
  rw [Nat.mul_add, Nat.mul_assoc]

theorem est_start {u d n m : Nat} (hd : d < 4294967296) (hn : 2147483648 ≤ n) (hn1 : n < 4294967296) (hm : m < 4294967296) (hu : u < n * 4294967296 + m) :
    Est u d n m (u / n) (u - u / n * n) := by
  have e1 := Nat.div_add_mod u n
  have e2 := Nat.mod_lt u (by omega : 0 < n)
  rw [Nat.mul_comm] at e1
  obtain ⟨q, hq⟩ : ∃ q, u / n = q := ⟨_, rfl⟩
  obtain ⟨r, hr⟩ : ∃ r, u % n = r := ⟨_, rfl⟩
  rw [hq, hr] at e1
  rw [hr] at e2
  rw [hq]
  have h3 : u - q * n = r := by omega
  rw [h3]
  refine ⟨e1, ?_, ?_, by omega⟩
  · refine Nat.le_of_lt_succ ((Nat.div_lt_iff_lt_mul (by omega)).2 ?_)
    rw [est_mul (q + 1) 0 n m, Nat.succ_mul]
    omega
  · refine Nat.le_of_lt_succ ?_
    refine Nat.lt_of_mul_lt_mul_right (a := n) ?_
    omega

/-- the digit itself is below the base -/
theorem est_dig {u d n m : Nat} (hd : d < 4294967296) (hu : u < n * 4294967296 + m) : (u * 4294967296 + d) / (n * 4294967296 + m) < 4294967296 := by
  refine (Nat.div_lt_iff_lt_mul (by omega)).2 ?_
  rw [Nat.mul_comm 4294967296]
  omega

/-- the test does not hold: the estimate is the digit -/
theorem est_done {u d n m q r : Nat} (h : Est u d n m q r) (hp : 0 < n) (ht : q * m ≤ 4294967296 * r + d) : q = (u * 4294967296 + d) / (n * 4294967296 + m) := by
  obtain ⟨a, b, c, e⟩ := h
  refine Nat.le_antisymm ((Nat.le_div_iff_mul_le (by omega)).2 ?_) b
  rw [est_mul q 0 n m, ← a]
  omega

/-- the test holds: the estimate is too great -/
theorem est_more {u d n m q r : Nat} (h : Est u d n m q r) (hd : d < 4294967296) (hu : u < n * 4294967296 + m) (ht : 4294967296 ≤ q ∨ 4294967296 * r + d < q * m) :
    0 < q ∧ (u * 4294967296 + d) / (n * 4294967296 + m) ≤ q - 1 ∧ (q - 1) * n + (r + n) = u := by
  obtain ⟨a, b, c, e⟩ := h
  have hlt : (u * 4294967296 + d) / (n * 4294967296 + m) < q := by
    rcases ht with ht | ht
    · exact Nat.lt_of_lt_of_le (est_dig hd hu) ht
    · refine (Nat.div_lt_iff_lt_mul (by omega)).2 ?_
      rw [est_mul q 0 n m, ← a]
      omega
  have hq0 : 0 < q := Nat.lt_of_le_of_lt (Nat.zero_le _) hlt
  obtain ⟨p, rfl⟩ : ∃ p, q = p + 1 := ⟨q - 1, by omega⟩
  refine ⟨by omega, Nat.le_of_lt_succ hlt, ?_⟩
  rw [Nat.succ_mul] at a
  rw [Nat.add_sub_cancel]
  omega

theorem est_next {u d n m q r : Nat} (h : Est u d n m q r) (hd : d < 4294967296) (hu : u < n * 4294967296 + m) (ht : 4294967296 ≤ q ∨ 4294967296 * r + d < q * m) (hr : r + n < 4294967296) :
    Est u d n m (q - 1) (r + n) := by
  obtain ⟨a, b, c⟩ := est_more h hd hu ht
  exact ⟨c, b, by have := h.le; omega, hr⟩

theorem est_break {u d n m q r : Nat} (h : Est u d n m q r) (hd : d < 4294967296) (hm : m < 4294967296) (hu : u < n * 4294967296 + m) (ht : 4294967296 ≤ q ∨ 4294967296 * r + d < q * m) (hr : 4294967296 ≤ r + n) :
    q - 1 = (u * 4294967296 + d) / (n * 4294967296 + m) := by
  obtain ⟨a, b, c⟩ := est_more h hd hu ht
  have hl := h.le
  refine Nat.le_antisymm ((Nat.le_div_iff_mul_le (by omega)).2 ?_) b
  obtain ⟨p, hp⟩ : ∃ p, q - 1 = p := ⟨_, rfl⟩
  rw [hp] at c ⊢
  rw [est_mul p 0 n m]
  have h1 : p * m ≤ 4294967296 * m := Nat.mul_le_mul_right m (by omega)
  omega

/-- two digits make the quotient -/
theorem two_digits (U u1 u0 y : Nat) (hy : 0 < y) :
    (U * 4294967296 + u1) / y * 4294967296 + ((U * 4294967296 + u1) % y * 4294967296 + u0) / y = (U * 18446744073709551616 + (u1 * 4294967296 + u0)) / y ∧
    ((U * 4294967296 + u1) % y * 4294967296 + u0) % y = (U * 18446744073709551616 + (u1 * 4294967296 + u0)) % y := by
  have e := Nat.div_add_mod (U * 4294967296 + u1) y
  obtain ⟨Q, hQ⟩ : ∃ Q, (U * 4294967296 + u1) / y = Q := ⟨_, rfl⟩
  obtain ⟨R, hR⟩ : ∃ R, (U * 4294967296 + u1) % y = R := ⟨_, rfl⟩
  rw [hQ, hR] at e
  rw [hQ, hR]
  have h : U * 18446744073709551616 + (u1 * 4294967296 + u0) = (R * 4294967296 + u0) + y * (Q * 4294967296) := by
    rw [← Nat.mul_assoc]
    omega
  rw [h, Nat.add_mul_div_left _ _ hy, Nat.add_mul_mod_self_left]
  exact ⟨Nat.add_comm _ _, rfl⟩

/-- the dividend, shifted by s places, in its two words -/
theorem dv_shift (hi lo y s : Nat) (hs : s ≤ 63) (h3 : lo < 18446744073709551616) (h1 : hi < y) (hy : y * 2 ^ s < 18446744073709551616) :
    hi * 2 ^ s ||| lo / 2 ^ (64 - s) = hi * 2 ^ s + lo / 2 ^ (64 - s) ∧ hi * 2 ^ s + lo / 2 ^ (64 - s) < y * 2 ^ s ∧
    (hi * 2 ^ s + lo / 2 ^ (64 - s)) * 18446744073709551616 + lo * 2 ^ s % 18446744073709551616 = (hi * 18446744073709551616 + lo) * 2 ^ s := by
  have hp : 0 < 2 ^ s := Nat.two_pow_pos s
  have hsplit : 2 ^ s * 2 ^ (64 - s) = 18446744073709551616 := by rw [← Nat.pow_add, show s + (64 - s) = 64 by omega]
  have hq : lo / 2 ^ (64 - s) < 2 ^ s := (Nat.div_lt_iff_lt_mul (Nat.two_pow_pos _)).2 (by rw [hsplit]; exact h3)
  refine ⟨?_, ?_, ?_⟩
  · rw [Nat.mul_comm]
    exact (Nat.two_pow_add_eq_or_of_lt hq hi).symm
  · have : (hi + 1) * 2 ^ s ≤ y * 2 ^ s := Nat.mul_le_mul_right _ h1
    rw [Nat.succ_mul] at this
    omega
  · have e := Nat.div_add_mod lo (2 ^ (64 - s))
    obtain ⟨a, ha⟩ : ∃ a, lo / 2 ^ (64 - s) = a := ⟨_, rfl⟩
    obtain ⟨b, hb⟩ : ∃ b, lo % 2 ^ (64 - s) = b := ⟨_, rfl⟩
    have hb1 := Nat.mod_lt lo (Nat.two_pow_pos (64 - s))
    rw [hb] at hb1
    rw [ha, hb] at e
    rw [ha]
    have e2 : lo * 2 ^ s = b * 2 ^ s + 18446744073709551616 * a := by
      rw [← e, Nat.add_mul, ← hsplit]
      simp only [Nat.mul_comm, Nat.mul_left_comm, Nat.mul_assoc]
      omega
    have h4 : b * 2 ^ s < 18446744073709551616 := by
      rw [← hsplit, Nat.mul_comm]
      exact Nat.mul_lt_mul_of_pos_left hb1 hp
    rw [Nat.add_mul, e2, Nat.add_mul_mod_self_left, Nat.mod_eq_of_lt h4, Nat.add_mul, Nat.mul_right_comm]
    omega
end Go.Proofs.YtcjpecdnenemaaaGreatDoor

namespace Go.Proofs.YtcjpecdnenemaaaGreatDoor
set_option linter.all false
open Go.RowKit Go.Shelf

theorem lowhalf (n : Nat) (h : n < 18446744073709551616) : bits .and .u64 (n : Int) 4294967295 = ((n % 4294967296 : Nat) : Int) := by
  have e := bits_and_u64_nat n 4294967295 h (by omega)
  rw [show ((4294967295 : Nat) : Int) = 4294967295 from rfl] at e
  rw [e]
  exact congrArg _ (Nat.and_two_pow_sub_one_eq_mod n 32)
theorem wr64 (n : Nat) (h : n < 18446744073709551616) : IntKind.u64.wrap (n : Int) = (n : Int) := by rw [IntKind.wrap_u64]; omega

theorem wrap_nat (n : Nat) : IntKind.u64.wrap (n : Int) = ((n % 18446744073709551616 : Nat) : Int) := by rw [IntKind.wrap_u64]; omega
set_option maxRecDepth 100000 in
set_option maxHeartbeats 1600000 in
theorem div64_pos (hi lo y : Nat) (h0 : 0 < hi) (h1 : hi < y) (h2 : y < 18446744073709551616) (h3 : lo < 18446744073709551616) (w : World) :
    Calls Tryz.prog 173 #[.int .u64 hi, .int .u64 lo, .int .u64 y] w fun e w' => e = .returned (.tuple #[.int .u64 ((hi * 18446744073709551616 + lo) / y : Nat), .int .u64 ((hi * 18446744073709551616 + lo) % y : Nat)]) ∧ Kept w w' := by
  have a0 : ((y : Int) == 0) = false := by simp; omega
  have a1 : decide ((y : Int) ≤ (hi : Int)) = false := decide_eq_false (by omega)
  have a2 : ((hi : Int) == 0) = false := by simp; omega
  have a3 : ¬ (y : Int) ≤ (hi : Int) := by omega
  obtain ⟨s, s1, s2, s3, s4⟩ := dv_norm y (by omega) h2
  obtain ⟨u1, u2, u3⟩ := dv_shift hi lo y s s1 h3 h1 s4
  obtain ⟨D, hD⟩ : ∃ D, (hi * 18446744073709551616 + lo) / y = D := ⟨_, rfl⟩
  obtain ⟨M, hM⟩ : ∃ M, (hi * 18446744073709551616 + lo) % y = M := ⟨_, rfl⟩
  rw [hD, hM]
  have HD := Lib.hid hD
  have HM := Lib.hid hM
  clear hD hM
  go_enter Tryz.func173, Tryz.ntmps173
  go_wp2_with fail
  refine (Tryz.bits_LeadingZeros64 y _ (by omega) (by omega)).mono ?_
  rw [show ((y : Int).toNat) = y from Int.toNat_natCast y, s2]
  rintro e w1 ⟨rfl, rfl⟩
  obtain ⟨Y, hY⟩ : ∃ Y : Nat, y * 2 ^ s = Y := ⟨_, rfl⟩
  have yI : ((y : Int) * 2 ^ s) = (Y : Int) := by rw [← hY]; push_cast; rfl
  obtain ⟨U, hU⟩ : ∃ U : Nat, hi * 2 ^ s + lo / 2 ^ (64 - s) = U := ⟨_, rfl⟩
  obtain ⟨L, hL⟩ : ∃ L : Nat, lo * 2 ^ s % 18446744073709551616 = L := ⟨_, rfl⟩
  rw [hY] at s3 s4 u2
  rw [hU] at u1 u2 u3
  rw [hL] at u3
  have HY := Lib.hid hY
  have HU := Lib.hid hU
  have HL := Lib.hid hL
  have HYI := Lib.hid yI
  clear hY hU hL yI
  go_upto_region 9 with (fail)
  rw [HYI.out, wr64 Y s4]
  go_upto_region 15 with (fail)
  obtain ⟨n, hn⟩ : ∃ n : Nat, Y / 4294967296 = n := ⟨_, rfl⟩
  obtain ⟨m, hm⟩ : ∃ m : Nat, Y % 4294967296 = m := ⟨_, rfl⟩
  obtain ⟨d1, hd1⟩ : ∃ d : Nat, L / 4294967296 = d := ⟨_, rfl⟩
  obtain ⟨d0, hd0⟩ : ∃ d : Nat, L % 4294967296 = d := ⟨_, rfl⟩
  have eY : Y = n * 4294967296 + m := by omega
  have eL : L = d1 * 4294967296 + d0 := by omega
  have lL : L < 18446744073709551616 := by rw [← HL.out]; exact Nat.mod_lt _ (by omega)
  have ln : 2147483648 ≤ n := by omega
  have ln1 : n < 4294967296 := by omega
  have lm : m < 4294967296 := by omega
  have ld1 : d1 < 4294967296 := by omega
  have ld0 : d0 < 4294967296 := by omega
  have e1 : (Y : Int) / 4294967296 = (n : Int) := by omega
  have e2 : bits .and .u64 (Y : Int) 4294967295 = (m : Int) := by rw [lowhalf Y s4, hm]
  have e4 : IntKind.u64.wrap ((lo : Int) * 2 ^ s) = (L : Int) := by rw [show ((lo : Int) * 2 ^ s) = ((lo * 2 ^ s : Nat) : Int) by push_cast; rfl, wrap_nat, HL.out]
  have e5 : (L : Int) / 4294967296 = (d1 : Int) := by omega
  have e6 : bits .and .u64 (L : Int) 4294967295 = (d0 : Int) := by rw [lowhalf L lL, hd0]
  have e3 : bits .or .u64 (IntKind.u64.wrap ((hi : Int) * 2 ^ s)) ((lo : Int) / 2 ^ (64 - s)) = (U : Int) := by
    have w1 : hi * 2 ^ s < 18446744073709551616 := Nat.lt_of_le_of_lt (Nat.le_add_right _ _) (by rw [HU.out]; omega)
    have w2 : lo / 2 ^ (64 - s) < 18446744073709551616 := Nat.lt_of_le_of_lt (Nat.div_le_self _ _) h3
    have v1 : ((hi : Int) * 2 ^ s) = ((hi * 2 ^ s : Nat) : Int) := by push_cast; rfl
    have v2 : ((lo : Int) / 2 ^ (64 - s)) = ((lo / 2 ^ (64 - s) : Nat) : Int) := by push_cast; rfl
    rw [v1, v2, wr64 _ w1, bits_or_u64_nat _ _ w1 w2, u1]
  rw [e1, e2, e3, e4, e5, e6]
  have b0 : ((n : Int) == 0) = false := by simp; omega
  clear e1 e2 e3 e4 e5 e6 hn hm hd1 hd0
  have hUlt : U < n * 4294967296 + m := by omega
  have E0 := est_start ld1 ln ln1 lm hUlt
  obtain ⟨q, hq⟩ : ∃ q, U / n = q := ⟨_, rfl⟩
  rw [hq] at E0
  obtain ⟨r, hr⟩ : ∃ r, U - q * n = r := ⟨_, rfl⟩
  rw [hr] at E0
  have eq0 : q * n + r = U := E0.eq
  have e7 : IntKind.u64.wrap ((U : Int) / (n : Int)) = (q : Int) := by
    rw [show ((U : Int) / (n : Int)) = ((U / n : Nat) : Int) from (Int.natCast_ediv U n).symm, hq, wr64 q (by rw [← hq]; exact Nat.lt_of_le_of_lt (Nat.div_le_self _ _) (by omega))]
  have e8 : IntKind.u64.wrap ((U : Int) - IntKind.u64.wrap ((q : Int) * (n : Int))) = (r : Int) := by
    rw [show ((q : Int) * (n : Int)) = ((q * n : Nat) : Int) from (Int.natCast_mul q n).symm, wr64 (q * n) (by omega), show ((U : Int) - ((q * n : Nat) : Int)) = (r : Int) by omega, wr64 r (by omega)]
  have HE0 := Lib.hid E0
  clear E0 eq0 hq hr
  go_upto_region 17 with (fail)
  have HUl := Lib.hid hUlt
  obtain ⟨Q, hQ⟩ : ∃ Q, (U * 4294967296 + d1) / (n * 4294967296 + m) = Q := ⟨_, rfl⟩
  obtain ⟨R, hR⟩ : ∃ R, (U * 4294967296 + d1) % (n * 4294967296 + m) = R := ⟨_, rfl⟩
  have hRlt : R < n * 4294967296 + m := by rw [← hR]; exact Nat.mod_lt _ (by omega)
  have hQlt : Q < 4294967296 := by rw [← hQ]; exact est_dig ld1 hUlt
  have hQR : Q * Y + R = U * 4294967296 + d1 := by
    have := Nat.div_add_mod (U * 4294967296 + d1) (n * 4294967296 + m)
    rw [hQ, hR, ← eY, Nat.mul_comm] at this
    exact this
  have HRl := Lib.hid hRlt
  have HQ1 := Lib.hid hQ
  have F3 : IntKind.u64.wrap (IntKind.u64.wrap (IntKind.u64.wrap ((U : Int) * 4294967296) + (d1 : Int)) - IntKind.u64.wrap ((Q : Int) * (Y : Int))) = (R : Int) := by
    rw [show ((Q : Int) * (Y : Int)) = ((Q * Y : Nat) : Int) from (Int.natCast_mul Q Y).symm]
    simp only [IntKind.wrap_u64]
    omega
  have E2 := est_start ld0 ln ln1 lm hRlt
  obtain ⟨q2, hq2⟩ : ∃ q, R / n = q := ⟨_, rfl⟩
  rw [hq2] at E2
  obtain ⟨r2, hr2⟩ : ∃ r, R - q2 * n = r := ⟨_, rfl⟩
  rw [hr2] at E2
  have eq2 : q2 * n + r2 = R := E2.eq
  have F4 : IntKind.u64.wrap ((R : Int) / (n : Int)) = (q2 : Int) := by
    rw [show ((R : Int) / (n : Int)) = ((R / n : Nat) : Int) from (Int.natCast_ediv R n).symm, hq2, wr64 q2 (by rw [← hq2]; exact Nat.lt_of_le_of_lt (Nat.div_le_self _ _) (by omega))]
  have F5 : IntKind.u64.wrap ((R : Int) - IntKind.u64.wrap ((q2 : Int) * (n : Int))) = (r2 : Int) := by
    rw [show ((q2 : Int) * (n : Int)) = ((q2 * n : Nat) : Int) from (Int.natCast_mul q2 n).symm, wr64 (q2 * n) (by omega), show ((R : Int) - ((q2 * n : Nat) : Int)) = (r2 : Int) by omega, wr64 r2 (by omega)]
  have HE2 := Lib.hid E2
  obtain ⟨P, hP⟩ : ∃ P, (R * 4294967296 + d0) / (n * 4294967296 + m) = P := ⟨_, rfl⟩
  obtain ⟨S, hS⟩ : ∃ S, (R * 4294967296 + d0) % (n * 4294967296 + m) = S := ⟨_, rfl⟩
  have hPlt : P < 4294967296 := by rw [← hP]; exact est_dig ld0 hRlt
  have hPS : P * Y + S = R * 4294967296 + d0 := by
    have := Nat.div_add_mod (R * 4294967296 + d0) (n * 4294967296 + m)
    rw [hP, hS, ← eY, Nat.mul_comm] at this
    exact this
  have HQ0 := Lib.hid hP
  have hSlt : S < Y := by rw [← hS, eY]; exact Nat.mod_lt _ (by omega)
  have F6 : IntKind.u64.wrap (IntKind.u64.wrap (IntKind.u64.wrap ((R : Int) * 4294967296) + (d0 : Int)) - IntKind.u64.wrap ((P : Int) * (Y : Int))) = (S : Int) := by
    rw [show ((P : Int) * (Y : Int)) = ((P * Y : Nat) : Int) from (Int.natCast_mul P Y).symm]
    simp only [IntKind.wrap_u64]
    omega
  have hres : Q * 4294967296 + P = (hi * 18446744073709551616 + lo) / y ∧ S / 2 ^ s = (hi * 18446744073709551616 + lo) % y := by
    obtain ⟨t1, t2⟩ := two_digits U d1 d0 Y (by omega)
    rw [← eL, u3, eY, hQ, hR, hP, ← eY, ← HY.out, Nat.mul_div_mul_right _ _ (Nat.two_pow_pos s)] at t1
    rw [← eL, u3, eY, hR, hS, ← eY, ← HY.out, Nat.mul_mod_mul_right] at t2
    exact ⟨t1, by rw [t2, Nat.mul_div_cancel _ (Nat.two_pow_pos s)]⟩
  rw [HD.out, HM.out] at hres
  have F9 : ((Q : Int) * 4294967296 + (P : Int)) = (D : Int) := by rw [← hres.1]; omega
  have F7 : IntKind.u64.wrap ((Q : Int) * 4294967296 + (P : Int)) = (D : Int) := by
    rw [← hres.1]
    simp only [IntKind.wrap_u64]
    omega
  have FA : IntKind.u64.wrap (IntKind.u64.wrap ((Q : Int) * 4294967296) + (P : Int)) = (D : Int) := by
    rw [← hres.1]
    simp only [IntKind.wrap_u64]
    omega
  have FB : IntKind.u64.wrap (D : Int) = (D : Int) := by rw [← F9, F7]; exact F9.symm
  have F8 : ((S : Int) / 2 ^ s) = (M : Int) := by
    rw [← hres.2]; push_cast; rfl
  have HF := Lib.hid (And.intro F3 (And.intro F4 (And.intro F5 (And.intro F6 (And.intro F7 (And.intro F8 (And.intro F9 (And.intro FA FB))))))))
  clear F3 F4 F5 F6 F7 F8 F9 FA FB hres hSlt hPS hPlt hQR hQlt hRlt hQ hR hP hS E2 eq2 hq2 hr2
  have HB := Lib.hid (And.intro (And.intro u2 u3) (And.intro eY (And.intro eL s3)))
  clear e7 e8 u1 u2 u3 eY eL s3 s2 hUlt
  go_loopw [15, 16] (fun qv rv wr => ∃ q r : Nat, qv = .int .u64 q ∧ rv = .int .u64 r ∧ Est U d1 n m q r ∧ wr = w1) (fun qv _ _ => (intOf qv).toNat)
  case atStart => exact ⟨q, r, rfl, rfl, HE0.out, rfl⟩
  case round =>
    obtain ⟨q, r, rfl, rfl, hE, rfl⟩ := hrel
    have HE := Lib.hid hE
    clear hE HE0
    have eq2 := HE.out.le
    have eq3 := HE.out.lt
    have d1l := ld1
    have lml := lm
    by_cases hb : 4294967296 ≤ q
    · have hm : 4294967296 ≤ q ∨ 4294967296 * r + d1 < q * m := .inl hb
      have hq0 : 0 < q := by omega
      have g0 : (4294967296 : Int) ≤ (q : Int) := by omega
      clear hb
      by_cases hr : r + n < 4294967296
      · have f2 : IntKind.u64.wrap ((r : Int) + (n : Int)) = ((r + n : Nat) : Int) := by rw [← Int.natCast_add, wr64 _ (by omega)]
        have f1 : IntKind.u64.wrap ((q : Int) - 1) = ((q - 1 : Nat) : Int) := by rw [show ((q : Int) - 1) = ((q - 1 : Nat) : Int) by omega, wr64 _ (by omega)]
        have hE2 := est_next HE.out d1l HUl.out hm hr
        have c1 : ¬ (4294967296 : Int) ≤ ((r + n : Nat) : Int) := by omega
        obtain ⟨p, hp⟩ : ∃ p, q - 1 = p := ⟨_, rfl⟩
        obtain ⟨t, ht2⟩ : ∃ t, r + n = t := ⟨_, rfl⟩
        have hpq : p < q := by omega
        rw [hp, ht2] at hE2
        rw [ht2] at f2 c1
        rw [hp] at f1
        have HE2 := Lib.hid hE2
        have HPQ := Lib.hid hpq
        clear hE2 hp ht2 hr hm hq0 hpq eq2 eq3
        go_wp2
        go_roundw
        case rel => exact ⟨p, t, rfl, rfl, HE2.out, by first | rfl | trivial⟩
        case measure => simpa [intOf] using HPQ.out
      · have hQ9 := est_break HE.out d1l lml HUl.out hm (by omega)
        rw [HQ1.out] at hQ9
        have f2 : IntKind.u64.wrap ((r : Int) + (n : Int)) = ((r + n : Nat) : Int) := by rw [← Int.natCast_add, wr64 _ (by omega)]
        have f1 : IntKind.u64.wrap ((q : Int) - 1) = (Q : Int) := by rw [show ((q : Int) - 1) = ((q - 1 : Nat) : Int) by omega, wr64 _ (by omega), hQ9]
        have c1 : (4294967296 : Int) ≤ ((r + n : Nat) : Int) := by omega
        obtain ⟨t, ht2⟩ : ∃ t, r + n = t := ⟨_, rfl⟩
        rw [ht2] at f2 c1
        clear ht2 hr hm hq0 hQ9 eq2 eq3 HE
        obtain ⟨F3, F4, F5, F6, F7, F8, F9, FA, FB⟩ := HF.out
        go_upto_region 24 with (fail)
        clear F3 F4 F5
        go_loopw [16, 18] (fun rv qv wx => ∃ q r : Nat, qv = .int .u64 q ∧ rv = .int .u64 r ∧ Est R d0 n m q r ∧ wx = wr) (fun _ qv _ => (intOf qv).toNat)
        case atStart => exact ⟨q2, r2, rfl, rfl, HE2.out, by first | rfl | trivial⟩
        case round =>
          obtain ⟨q, r, rfl, rfl, hE, rfl⟩ := hrel
          have HE := Lib.hid hE
          clear hE HE2
          have eq2 := HE.out.le
          have eq3 := HE.out.lt
          have d0l := ld0
          have lml := lm
          by_cases hb : 4294967296 ≤ q
          · have hm : 4294967296 ≤ q ∨ 4294967296 * r + d0 < q * m := .inl hb
            have hq0 : 0 < q := by omega
            have g0 : (4294967296 : Int) ≤ (q : Int) := by omega
            clear hb
            by_cases hr : r + n < 4294967296
            · have f2 : IntKind.u64.wrap ((r : Int) + (n : Int)) = ((r + n : Nat) : Int) := by rw [← Int.natCast_add, wr64 _ (by omega)]
              have f1 : IntKind.u64.wrap ((q : Int) - 1) = ((q - 1 : Nat) : Int) := by rw [show ((q : Int) - 1) = ((q - 1 : Nat) : Int) by omega, wr64 _ (by omega)]
              have hE2 := est_next HE.out d0l HRl.out hm hr
              have c1 : ¬ (4294967296 : Int) ≤ ((r + n : Nat) : Int) := by omega
              obtain ⟨p, hp⟩ : ∃ p, q - 1 = p := ⟨_, rfl⟩
              obtain ⟨t, ht2⟩ : ∃ t, r + n = t := ⟨_, rfl⟩
              have hpq : p < q := by omega
              rw [hp, ht2] at hE2
              rw [ht2] at f2 c1
              rw [hp] at f1
              have HE2 := Lib.hid hE2
              have HPQ := Lib.hid hpq
              clear hE2 hp ht2 hr hm hq0 hpq eq2 eq3
              go_wp2
              go_roundw
              case rel => exact ⟨p, t, rfl, rfl, HE2.out, by first | rfl | trivial⟩
              case measure => simpa [intOf] using HPQ.out
            · have hQ9 := est_break HE.out d0l lml HRl.out hm (by omega)
              rw [HQ0.out] at hQ9
              have f2 : IntKind.u64.wrap ((r : Int) + (n : Int)) = ((r + n : Nat) : Int) := by rw [← Int.natCast_add, wr64 _ (by omega)]
              have f1 : IntKind.u64.wrap ((q : Int) - 1) = (P : Int) := by rw [show ((q : Int) - 1) = ((q - 1 : Nat) : Int) by omega, wr64 _ (by omega), hQ9]
              have c1 : (4294967296 : Int) ≤ ((r + n : Nat) : Int) := by omega
              obtain ⟨t, ht2⟩ : ∃ t, r + n = t := ⟨_, rfl⟩
              rw [ht2] at f2 c1
              clear ht2 hr hm hq0 hQ9 eq2 eq3 HE
              go_wp2
              go_ret2
              exact ⟨rfl, Kept.refl _⟩
          · have g0 : ¬ (4294967296 : Int) ≤ (q : Int) := by omega
            have hX : q * m < 18446744073709551616 := by
              have h8 : q * m ≤ 4294967296 * m := Nat.mul_le_mul_right m (by omega)
              omega
            have f0 : IntKind.u64.wrap ((q : Int) * (m : Int)) = ((q * m : Nat) : Int) := by rw [← Int.natCast_mul, wr64 _ hX]
            have f8 : IntKind.u64.wrap (4294967296 * (r : Int)) = 4294967296 * (r : Int) := by rw [show (4294967296 * (r : Int)) = ((4294967296 * r : Nat) : Int) by omega, wr64 _ (by omega)]
            have f9 : IntKind.u64.wrap (4294967296 * (r : Int) + (d0 : Int)) = 4294967296 * (r : Int) + (d0 : Int) := by rw [show (4294967296 * (r : Int) + (d0 : Int)) = ((4294967296 * r + d0 : Nat) : Int) by omega, wr64 _ (by omega)]
            by_cases ht : 4294967296 * r + d0 < q * m
            · have hm : 4294967296 ≤ q ∨ 4294967296 * r + d0 < q * m := .inr ht
              have hq0 : 0 < q := (est_more HE.out d0l HRl.out hm).1
              have g1 : 4294967296 * (r : Int) + (d0 : Int) < ((q * m : Nat) : Int) := by omega
              obtain ⟨X, hXX⟩ : ∃ X, q * m = X := ⟨_, rfl⟩
              rw [hXX] at f0 g1
              clear hb ht hX hXX
              by_cases hr : r + n < 4294967296
              · have f2 : IntKind.u64.wrap ((r : Int) + (n : Int)) = ((r + n : Nat) : Int) := by rw [← Int.natCast_add, wr64 _ (by omega)]
                have f1 : IntKind.u64.wrap ((q : Int) - 1) = ((q - 1 : Nat) : Int) := by rw [show ((q : Int) - 1) = ((q - 1 : Nat) : Int) by omega, wr64 _ (by omega)]
                have hE2 := est_next HE.out d0l HRl.out hm hr
                have c1 : ¬ (4294967296 : Int) ≤ ((r + n : Nat) : Int) := by omega
                obtain ⟨p, hp⟩ : ∃ p, q - 1 = p := ⟨_, rfl⟩
                obtain ⟨t, ht2⟩ : ∃ t, r + n = t := ⟨_, rfl⟩
                have hpq : p < q := by omega
                rw [hp, ht2] at hE2
                rw [ht2] at f2 c1
                rw [hp] at f1
                have HE2 := Lib.hid hE2
                have HPQ := Lib.hid hpq
                clear hE2 hp ht2 hr hm hq0 hpq eq2 eq3
                go_wp2
                go_roundw
                case rel => exact ⟨p, t, rfl, rfl, HE2.out, by first | rfl | trivial⟩
                case measure => simpa [intOf] using HPQ.out
              · have hQ9 := est_break HE.out d0l lml HRl.out hm (by omega)
                rw [HQ0.out] at hQ9
                have f2 : IntKind.u64.wrap ((r : Int) + (n : Int)) = ((r + n : Nat) : Int) := by rw [← Int.natCast_add, wr64 _ (by omega)]
                have f1 : IntKind.u64.wrap ((q : Int) - 1) = (P : Int) := by rw [show ((q : Int) - 1) = ((q - 1 : Nat) : Int) by omega, wr64 _ (by omega), hQ9]
                have c1 : (4294967296 : Int) ≤ ((r + n : Nat) : Int) := by omega
                obtain ⟨t, ht2⟩ : ∃ t, r + n = t := ⟨_, rfl⟩
                rw [ht2] at f2 c1
                clear ht2 hr hm hq0 hQ9 eq2 eq3 HE
                go_wp2
                go_ret2
                exact ⟨rfl, Kept.refl _⟩
            · have g1 : ¬ 4294967296 * (r : Int) + (d0 : Int) < ((q * m : Nat) : Int) := by omega
              have hQ9 := est_done HE.out (by omega) (by omega)
              rw [HQ0.out] at hQ9
              obtain ⟨X, hXX⟩ : ∃ X, q * m = X := ⟨_, rfl⟩
              rw [hXX] at f0 g1
              clear hb ht hX hXX eq2 eq3 HE
              rw [hQ9] at f0 g0 ⊢
              clear hQ9
              go_wp2
              go_ret2
              exact ⟨rfl, Kept.refl _⟩
    · have g0 : ¬ (4294967296 : Int) ≤ (q : Int) := by omega
      have hX : q * m < 18446744073709551616 := by
        have h8 : q * m ≤ 4294967296 * m := Nat.mul_le_mul_right m (by omega)
        omega
      have f0 : IntKind.u64.wrap ((q : Int) * (m : Int)) = ((q * m : Nat) : Int) := by rw [← Int.natCast_mul, wr64 _ hX]
      have f8 : IntKind.u64.wrap (4294967296 * (r : Int)) = 4294967296 * (r : Int) := by rw [show (4294967296 * (r : Int)) = ((4294967296 * r : Nat) : Int) by omega, wr64 _ (by omega)]
      have f9 : IntKind.u64.wrap (4294967296 * (r : Int) + (d1 : Int)) = 4294967296 * (r : Int) + (d1 : Int) := by rw [show (4294967296 * (r : Int) + (d1 : Int)) = ((4294967296 * r + d1 : Nat) : Int) by omega, wr64 _ (by omega)]
      by_cases ht : 4294967296 * r + d1 < q * m
      · have hm : 4294967296 ≤ q ∨ 4294967296 * r + d1 < q * m := .inr ht
        have hq0 : 0 < q := (est_more HE.out d1l HUl.out hm).1
        have g1 : 4294967296 * (r : Int) + (d1 : Int) < ((q * m : Nat) : Int) := by omega
        obtain ⟨X, hXX⟩ : ∃ X, q * m = X := ⟨_, rfl⟩
        rw [hXX] at f0 g1
        clear hb ht hX hXX
        by_cases hr : r + n < 4294967296
        · have f2 : IntKind.u64.wrap ((r : Int) + (n : Int)) = ((r + n : Nat) : Int) := by rw [← Int.natCast_add, wr64 _ (by omega)]
          have f1 : IntKind.u64.wrap ((q : Int) - 1) = ((q - 1 : Nat) : Int) := by rw [show ((q : Int) - 1) = ((q - 1 : Nat) : Int) by omega, wr64 _ (by omega)]
          have hE2 := est_next HE.out d1l HUl.out hm hr
          have c1 : ¬ (4294967296 : Int) ≤ ((r + n : Nat) : Int) := by omega
          obtain ⟨p, hp⟩ : ∃ p, q - 1 = p := ⟨_, rfl⟩
          obtain ⟨t, ht2⟩ : ∃ t, r + n = t := ⟨_, rfl⟩
          have hpq : p < q := by omega
          rw [hp, ht2] at hE2
          rw [ht2] at f2 c1
          rw [hp] at f1
          have HE2 := Lib.hid hE2
          have HPQ := Lib.hid hpq
          clear hE2 hp ht2 hr hm hq0 hpq eq2 eq3
          go_wp2
          go_roundw
          case rel => exact ⟨p, t, rfl, rfl, HE2.out, by first | rfl | trivial⟩
          case measure => simpa [intOf] using HPQ.out
        · have hQ9 := est_break HE.out d1l lml HUl.out hm (by omega)
          rw [HQ1.out] at hQ9
          have f2 : IntKind.u64.wrap ((r : Int) + (n : Int)) = ((r + n : Nat) : Int) := by rw [← Int.natCast_add, wr64 _ (by omega)]
          have f1 : IntKind.u64.wrap ((q : Int) - 1) = (Q : Int) := by rw [show ((q : Int) - 1) = ((q - 1 : Nat) : Int) by omega, wr64 _ (by omega), hQ9]
          have c1 : (4294967296 : Int) ≤ ((r + n : Nat) : Int) := by omega
          obtain ⟨t, ht2⟩ : ∃ t, r + n = t := ⟨_, rfl⟩
          rw [ht2] at f2 c1
          clear ht2 hr hm hq0 hQ9 eq2 eq3 HE
          obtain ⟨F3, F4, F5, F6, F7, F8, F9, FA, FB⟩ := HF.out
          go_upto_region 24 with (fail)
          clear F3 F4 F5
          go_loopw [16, 18] (fun rv qv wx => ∃ q r : Nat, qv = .int .u64 q ∧ rv = .int .u64 r ∧ Est R d0 n m q r ∧ wx = wr) (fun _ qv _ => (intOf qv).toNat)
          case atStart => exact ⟨q2, r2, rfl, rfl, HE2.out, by first | rfl | trivial⟩
          case round =>
            obtain ⟨q, r, rfl, rfl, hE, rfl⟩ := hrel
            have HE := Lib.hid hE
            clear hE HE2
            have eq2 := HE.out.le
            have eq3 := HE.out.lt
            have d0l := ld0
            have lml := lm
            by_cases hb : 4294967296 ≤ q
            · have hm : 4294967296 ≤ q ∨ 4294967296 * r + d0 < q * m := .inl hb
              have hq0 : 0 < q := by omega
              have g0 : (4294967296 : Int) ≤ (q : Int) := by omega
              clear hb
              by_cases hr : r + n < 4294967296
              · have f2 : IntKind.u64.wrap ((r : Int) + (n : Int)) = ((r + n : Nat) : Int) := by rw [← Int.natCast_add, wr64 _ (by omega)]
                have f1 : IntKind.u64.wrap ((q : Int) - 1) = ((q - 1 : Nat) : Int) := by rw [show ((q : Int) - 1) = ((q - 1 : Nat) : Int) by omega, wr64 _ (by omega)]
                have hE2 := est_next HE.out d0l HRl.out hm hr
                have c1 : ¬ (4294967296 : Int) ≤ ((r + n : Nat) : Int) := by omega
                obtain ⟨p, hp⟩ : ∃ p, q - 1 = p := ⟨_, rfl⟩
                obtain ⟨t, ht2⟩ : ∃ t, r + n = t := ⟨_, rfl⟩
                have hpq : p < q := by omega
                rw [hp, ht2] at hE2
                rw [ht2] at f2 c1
                rw [hp] at f1
                have HE2 := Lib.hid hE2
                have HPQ := Lib.hid hpq
                clear hE2 hp ht2 hr hm hq0 hpq eq2 eq3
                go_wp2
                go_roundw
                case rel => exact ⟨p, t, rfl, rfl, HE2.out, by first | rfl | trivial⟩
                case measure => simpa [intOf] using HPQ.out
              · have hQ9 := est_break HE.out d0l lml HRl.out hm (by omega)
                rw [HQ0.out] at hQ9
                have f2 : IntKind.u64.wrap ((r : Int) + (n : Int)) = ((r + n : Nat) : Int) := by rw [← Int.natCast_add, wr64 _ (by omega)]
                have f1 : IntKind.u64.wrap ((q : Int) - 1) = (P : Int) := by rw [show ((q : Int) - 1) = ((q - 1 : Nat) : Int) by omega, wr64 _ (by omega), hQ9]
                have c1 : (4294967296 : Int) ≤ ((r + n : Nat) : Int) := by omega
                obtain ⟨t, ht2⟩ : ∃ t, r + n = t := ⟨_, rfl⟩
                rw [ht2] at f2 c1
                clear ht2 hr hm hq0 hQ9 eq2 eq3 HE
                go_wp2
                go_ret2
                exact ⟨rfl, Kept.refl _⟩
            · have g0 : ¬ (4294967296 : Int) ≤ (q : Int) := by omega
              have hX : q * m < 18446744073709551616 := by
                have h8 : q * m ≤ 4294967296 * m := Nat.mul_le_mul_right m (by omega)
                omega
              have f0 : IntKind.u64.wrap ((q : Int) * (m : Int)) = ((q * m : Nat) : Int) := by rw [← Int.natCast_mul, wr64 _ hX]
              have f8 : IntKind.u64.wrap (4294967296 * (r : Int)) = 4294967296 * (r : Int) := by rw [show (4294967296 * (r : Int)) = ((4294967296 * r : Nat) : Int) by omega, wr64 _ (by omega)]
              have f9 : IntKind.u64.wrap (4294967296 * (r : Int) + (d0 : Int)) = 4294967296 * (r : Int) + (d0 : Int) := by rw [show (4294967296 * (r : Int) + (d0 : Int)) = ((4294967296 * r + d0 : Nat) : Int) by omega, wr64 _ (by omega)]
              by_cases ht : 4294967296 * r + d0 < q * m
              · have hm : 4294967296 ≤ q ∨ 4294967296 * r + d0 < q * m := .inr ht
                have hq0 : 0 < q := (est_more HE.out d0l HRl.out hm).1
                have g1 : 4294967296 * (r : Int) + (d0 : Int) < ((q * m : Nat) : Int) := by omega
                obtain ⟨X, hXX⟩ : ∃ X, q * m = X := ⟨_, rfl⟩
                rw [hXX] at f0 g1
                clear hb ht hX hXX
                by_cases hr : r + n < 4294967296
                · have f2 : IntKind.u64.wrap ((r : Int) + (n : Int)) = ((r + n : Nat) : Int) := by rw [← Int.natCast_add, wr64 _ (by omega)]
                  have f1 : IntKind.u64.wrap ((q : Int) - 1) = ((q - 1 : Nat) : Int) := by rw [show ((q : Int) - 1) = ((q - 1 : Nat) : Int) by omega, wr64 _ (by omega)]
                  have hE2 := est_next HE.out d0l HRl.out hm hr
                  have c1 : ¬ (4294967296 : Int) ≤ ((r + n : Nat) : Int) := by omega
                  obtain ⟨p, hp⟩ : ∃ p, q - 1 = p := ⟨_, rfl⟩
                  obtain ⟨t, ht2⟩ : ∃ t, r + n = t := ⟨_, rfl⟩
                  have hpq : p < q := by omega
                  rw [hp, ht2] at hE2
                  rw [ht2] at f2 c1
                  rw [hp] at f1
                  have HE2 := Lib.hid hE2
                  have HPQ := Lib.hid hpq
                  clear hE2 hp ht2 hr hm hq0 hpq eq2 eq3
                  go_wp2
                  go_roundw
                  case rel => exact ⟨p, t, rfl, rfl, HE2.out, by first | rfl | trivial⟩
                  case measure => simpa [intOf] using HPQ.out
                · have hQ9 := est_break HE.out d0l lml HRl.out hm (by omega)
                  rw [HQ0.out] at hQ9
                  have f2 : IntKind.u64.wrap ((r : Int) + (n : Int)) = ((r + n : Nat) : Int) := by rw [← Int.natCast_add, wr64 _ (by omega)]
                  have f1 : IntKind.u64.wrap ((q : Int) - 1) = (P : Int) := by rw [show ((q : Int) - 1) = ((q - 1 : Nat) : Int) by omega, wr64 _ (by omega), hQ9]
                  have c1 : (4294967296 : Int) ≤ ((r + n : Nat) : Int) := by omega
                  obtain ⟨t, ht2⟩ : ∃ t, r + n = t := ⟨_, rfl⟩
                  rw [ht2] at f2 c1
                  clear ht2 hr hm hq0 hQ9 eq2 eq3 HE
                  go_wp2
                  go_ret2
                  exact ⟨rfl, Kept.refl _⟩
              · have g1 : ¬ 4294967296 * (r : Int) + (d0 : Int) < ((q * m : Nat) : Int) := by omega
                have hQ9 := est_done HE.out (by omega) (by omega)
                rw [HQ0.out] at hQ9
                obtain ⟨X, hXX⟩ : ∃ X, q * m = X := ⟨_, rfl⟩
                rw [hXX] at f0 g1
                clear hb ht hX hXX eq2 eq3 HE
                rw [hQ9] at f0 g0 ⊢
                clear hQ9
                go_wp2
                go_ret2
                exact ⟨rfl, Kept.refl _⟩
      · have g1 : ¬ 4294967296 * (r : Int) + (d1 : Int) < ((q * m : Nat) : Int) := by omega
        have hQ9 := est_done HE.out (by omega) (by omega)
        rw [HQ1.out] at hQ9
        obtain ⟨X, hXX⟩ : ∃ X, q * m = X := ⟨_, rfl⟩
        rw [hXX] at f0 g1
        clear hb ht hX hXX eq2 eq3 HE
        rw [hQ9] at f0 g0 ⊢
        clear hQ9
        obtain ⟨F3, F4, F5, F6, F7, F8, F9, FA, FB⟩ := HF.out
        go_upto_region 24 with (fail)
        clear F3 F4 F5
        go_loopw [16, 18] (fun rv qv wx => ∃ q r : Nat, qv = .int .u64 q ∧ rv = .int .u64 r ∧ Est R d0 n m q r ∧ wx = wr) (fun _ qv _ => (intOf qv).toNat)
        case atStart => exact ⟨q2, r2, rfl, rfl, HE2.out, by first | rfl | trivial⟩
        case round =>
          obtain ⟨q, r, rfl, rfl, hE, rfl⟩ := hrel
          have HE := Lib.hid hE
          clear hE HE2
          have eq2 := HE.out.le
          have eq3 := HE.out.lt
          have d0l := ld0
          have lml := lm
          by_cases hb : 4294967296 ≤ q
          · have hm : 4294967296 ≤ q ∨ 4294967296 * r + d0 < q * m := .inl hb
            have hq0 : 0 < q := by omega
            have g0 : (4294967296 : Int) ≤ (q : Int) := by omega
            clear hb
            by_cases hr : r + n < 4294967296
            · have f2 : IntKind.u64.wrap ((r : Int) + (n : Int)) = ((r + n : Nat) : Int) := by rw [← Int.natCast_add, wr64 _ (by omega)]
              have f1 : IntKind.u64.wrap ((q : Int) - 1) = ((q - 1 : Nat) : Int) := by rw [show ((q : Int) - 1) = ((q - 1 : Nat) : Int) by omega, wr64 _ (by omega)]
              have hE2 := est_next HE.out d0l HRl.out hm hr
              have c1 : ¬ (4294967296 : Int) ≤ ((r + n : Nat) : Int) := by omega
              obtain ⟨p, hp⟩ : ∃ p, q - 1 = p := ⟨_, rfl⟩
              obtain ⟨t, ht2⟩ : ∃ t, r + n = t := ⟨_, rfl⟩
              have hpq : p < q := by omega
              rw [hp, ht2] at hE2
              rw [ht2] at f2 c1
              rw [hp] at f1
              have HE2 := Lib.hid hE2
              have HPQ := Lib.hid hpq
              clear hE2 hp ht2 hr hm hq0 hpq eq2 eq3
              go_wp2
              go_roundw
              case rel => exact ⟨p, t, rfl, rfl, HE2.out, by first | rfl | trivial⟩
              case measure => simpa [intOf] using HPQ.out
            · have hQ9 := est_break HE.out d0l lml HRl.out hm (by omega)
              rw [HQ0.out] at hQ9
              have f2 : IntKind.u64.wrap ((r : Int) + (n : Int)) = ((r + n : Nat) : Int) := by rw [← Int.natCast_add, wr64 _ (by omega)]
              have f1 : IntKind.u64.wrap ((q : Int) - 1) = (P : Int) := by rw [show ((q : Int) - 1) = ((q - 1 : Nat) : Int) by omega, wr64 _ (by omega), hQ9]
              have c1 : (4294967296 : Int) ≤ ((r + n : Nat) : Int) := by omega
              obtain ⟨t, ht2⟩ : ∃ t, r + n = t := ⟨_, rfl⟩
              rw [ht2] at f2 c1
              clear ht2 hr hm hq0 hQ9 eq2 eq3 HE
              go_wp2
              go_ret2
              exact ⟨rfl, Kept.refl _⟩
          · have g0 : ¬ (4294967296 : Int) ≤ (q : Int) := by omega
            have hX : q * m < 18446744073709551616 := by
              have h8 : q * m ≤ 4294967296 * m := Nat.mul_le_mul_right m (by omega)
              omega
            have f0 : IntKind.u64.wrap ((q : Int) * (m : Int)) = ((q * m : Nat) : Int) := by rw [← Int.natCast_mul, wr64 _ hX]
            have f8 : IntKind.u64.wrap (4294967296 * (r : Int)) = 4294967296 * (r : Int) := by rw [show (4294967296 * (r : Int)) = ((4294967296 * r : Nat) : Int) by omega, wr64 _ (by omega)]
            have f9 : IntKind.u64.wrap (4294967296 * (r : Int) + (d0 : Int)) = 4294967296 * (r : Int) + (d0 : Int) := by rw [show (4294967296 * (r : Int) + (d0 : Int)) = ((4294967296 * r + d0 : Nat) : Int) by omega, wr64 _ (by omega)]
            by_cases ht : 4294967296 * r + d0 < q * m
            · have hm : 4294967296 ≤ q ∨ 4294967296 * r + d0 < q * m := .inr ht
              have hq0 : 0 < q := (est_more HE.out d0l HRl.out hm).1
              have g1 : 4294967296 * (r : Int) + (d0 : Int) < ((q * m : Nat) : Int) := by omega
              obtain ⟨X, hXX⟩ : ∃ X, q * m = X := ⟨_, rfl⟩
              rw [hXX] at f0 g1
              clear hb ht hX hXX
              by_cases hr : r + n < 4294967296
              · have f2 : IntKind.u64.wrap ((r : Int) + (n : Int)) = ((r + n : Nat) : Int) := by rw [← Int.natCast_add, wr64 _ (by omega)]
                have f1 : IntKind.u64.wrap ((q : Int) - 1) = ((q - 1 : Nat) : Int) := by rw [show ((q : Int) - 1) = ((q - 1 : Nat) : Int) by omega, wr64 _ (by omega)]
                have hE2 := est_next HE.out d0l HRl.out hm hr
                have c1 : ¬ (4294967296 : Int) ≤ ((r + n : Nat) : Int) := by omega
                obtain ⟨p, hp⟩ : ∃ p, q - 1 = p := ⟨_, rfl⟩
                obtain ⟨t, ht2⟩ : ∃ t, r + n = t := ⟨_, rfl⟩
                have hpq : p < q := by omega
                rw [hp, ht2] at hE2
                rw [ht2] at f2 c1
                rw [hp] at f1
                have HE2 := Lib.hid hE2
                have HPQ := Lib.hid hpq
                clear hE2 hp ht2 hr hm hq0 hpq eq2 eq3
                go_wp2
                go_roundw
                case rel => exact ⟨p, t, rfl, rfl, HE2.out, by first | rfl | trivial⟩
                case measure => simpa [intOf] using HPQ.out
              · have hQ9 := est_break HE.out d0l lml HRl.out hm (by omega)
                rw [HQ0.out] at hQ9
                have f2 : IntKind.u64.wrap ((r : Int) + (n : Int)) = ((r + n : Nat) : Int) := by rw [← Int.natCast_add, wr64 _ (by omega)]
                have f1 : IntKind.u64.wrap ((q : Int) - 1) = (P : Int) := by rw [show ((q : Int) - 1) = ((q - 1 : Nat) : Int) by omega, wr64 _ (by omega), hQ9]
                have c1 : (4294967296 : Int) ≤ ((r + n : Nat) : Int) := by omega
                obtain ⟨t, ht2⟩ : ∃ t, r + n = t := ⟨_, rfl⟩
                rw [ht2] at f2 c1
                clear ht2 hr hm hq0 hQ9 eq2 eq3 HE
                go_wp2
                go_ret2
                exact ⟨rfl, Kept.refl _⟩
            · have g1 : ¬ 4294967296 * (r : Int) + (d0 : Int) < ((q * m : Nat) : Int) := by omega
              have hQ9 := est_done HE.out (by omega) (by omega)
              rw [HQ0.out] at hQ9
              obtain ⟨X, hXX⟩ : ∃ X, q * m = X := ⟨_, rfl⟩
              rw [hXX] at f0 g1
              clear hb ht hX hXX eq2 eq3 HE
              rw [hQ9] at f0 g0 ⊢
              clear hQ9
              go_wp2
              go_ret2
              exact ⟨rfl, Kept.refl _⟩
end Go.Proofs.YtcjpecdnenemaaaGreatDoor

namespace Go.Proofs.YtcjpecdnenemaaaGreatDoor
set_option linter.all false
open Go.RowKit Go.Shelf

theorem ratio_all (a b c : Int) (ha : 0 ≤ a) (hb : 0 ≤ b) (hc : 0 < c) (ha1 : a ≤ 9223372036854775807) (hb1 : b ≤ 9223372036854775807) (hc1 : c ≤ 9223372036854775807) (h : a * b < c * 18446744073709551616) (w : World) :
    Calls Tryz.prog 132 #[.int .i64 a, .int .i64 b, .int .i64 c] w fun e w' => e = .returned (.int .i64 (ratS a b c)) ∧ Kept w w' := by
  by_cases hsm : a * b ≤ 18446744073709551615
  · exact ratio_any a b c ha hb hc ha1 hb1 hc1 hsm w
  · obtain ⟨x, rfl⟩ := Int.eq_ofNat_of_zero_le ha
    obtain ⟨y, rfl⟩ := Int.eq_ofNat_of_zero_le hb
    obtain ⟨z, rfl⟩ := Int.eq_ofNat_of_zero_le (Int.le_of_lt hc)
    obtain ⟨p, hp⟩ : ∃ p, x * y = p := ⟨_, rfl⟩
    have hpI : (x : Int) * (y : Int) = (p : Int) := by rw [← hp]; push_cast; rfl
    rw [hpI] at h hsm
    obtain ⟨u, hu⟩ : ∃ u, p / 18446744073709551616 = u := ⟨_, rfl⟩
    obtain ⟨v, hv⟩ : ∃ v, p % 18446744073709551616 = v := ⟨_, rfl⟩
    have huv : u * 18446744073709551616 + v = p := by omega
    have hu0 : 0 < u := by omega
    have huz : u < z := by omega
    have hv1 : v < 18446744073709551616 := by omega
    obtain ⟨q, hq⟩ : ∃ q, p / z = q := ⟨_, rfl⟩
    obtain ⟨r9, hr9⟩ : ∃ r, p % z = r := ⟨_, rfl⟩
    have hq1 : q < 18446744073709551616 := by
      rw [← hq]; exact (Nat.div_lt_iff_lt_mul (by omega)).2 (by rw [Nat.mul_comm]; omega)
    have HR := Lib.hid (show ratS (x : Int) (y : Int) (z : Int) = min (q : Int) 100000 by unfold ratS; rw [hpI, ← hq]; push_cast; rfl)
    have HP := Lib.hid hp
    have HU := Lib.hid hu
    have HV := Lib.hid hv
    have HUV := Lib.hid huv
    have HQ := Lib.hid hq
    have HR9 := Lib.hid hr9
    have lx : (x : Int) ≤ 18446744073709551615 := by omega
    have ly : (y : Int) ≤ 18446744073709551615 := by omega
    have lz : (z : Int) ≤ 18446744073709551615 := by omega
    have lq : (q : Int) ≤ 18446744073709551615 := by omega
    have HN := Lib.hid (And.intro hu0 (And.intro huz hv1))
    have HZ := Lib.hid (show z < 18446744073709551616 by omega)
    have HX := Lib.hid (And.intro (show x < 18446744073709551616 by omega) (show y < 18446744073709551616 by omega))
    clear hp hpI h hsm hu hv huv hq hr9 hu0 huz hv1 hq1
    go_enter Tryz.func132, Tryz.ntmps132
    go_wp2_with fail
    refine (Tryz.bits_Mul64 x y HX.out.1 HX.out.2 _).mono ?_
    rw [HP.out, HU.out, HV.out]
    rintro e w1 ⟨rfl, rfl⟩
    go_wp2_with fail
    refine (div64_pos u v z HN.out.1 HN.out.2.1 HZ.out HN.out.2.2 _).mono ?_
    rw [HUV.out, HQ.out, HR9.out]
    rintro e w1 ⟨rfl, hk1⟩
    by_cases hm : (q : Int) ≤ 100000
    · have hmin : min (q : Int) 100000 = (q : Int) := by omega
      go_wp2
      go_ret
      exact ⟨ret_int (by rw [HR.out]; omega), hk1⟩
    · have hmin : min (q : Int) 100000 = 100000 := by omega
      go_wp2
      go_ret
      exact ⟨ret_int (by rw [HR.out]; omega), hk1⟩

set_option maxRecDepth 100000 in
set_option maxHeartbeats 1600000 in
theorem exchange_all (A : Option Addr) (n c : Nat) (xs : List Eqv) (fr tt : ByteArray) (m day known : Int) (w : World) (hT : TabA w A n c xs) (hlt : n ≤ 1000000) :
    Calls Tryz.prog 68 #[.slice A n c, .string fr, .string tt, .int .i64 m, .int .i64 day, .int .i64 known] w fun e w' => e = .returned (i2V (exS xs fr tt m day known)) ∧ Kept w w' := by
  have HT := Lib.hid hT
  clear hT
  obtain ⟨E, hE⟩ : ∃ E, E = chkS xs := ⟨_, rfl⟩
  have HE := Lib.hid hE
  by_cases h0 : E.2 = 0
  · have h0' : (E.2 != 0) = false := by simp [h0]
    by_cases hv : inB m 0 100000 = true
    · have HV := Lib.hid hv
      rcases hfx : inForceS xs fr day known with _ | x
      · obtain ⟨y, hy⟩ : ∃ y, inForceS xs tt day known = y := ⟨_, rfl⟩
        have HO := Lib.hid (show exS xs fr tt m day known = (0, 10) by unfold exS; rw [← hE, if_pos h0, if_pos hv, hfx])
        have HFx := Lib.hid hfx
        have HFy := Lib.hid hy
        clear hfx hy h0 hE hv
        go_enter Tryz.func68, Tryz.ntmps68
        go_wp2_with fail
        refine (check_any A n c xs _ (HT.out.kept (Kept.refl _))).mono ?_
        rw [← HE.out]
        rintro e w1 ⟨rfl, hk1⟩
        go_wp2_with fail
        refine (within_any m 0 100000 _).mono ?_
        rw [HV.out]
        rintro e w2 ⟨rfl, rfl⟩
        go_wp2_with fail
        refine (inForce_any A n c xs fr day known _ (HT.out.kept hk1) hlt).mono ?_
        rw [HFx.out]
        rintro e w3 ⟨rfl, hk3'⟩
        have hk3 := hk1.trans hk3'
        dsimp only [forV, eqV, Option.getD_none, Option.getD_some, Option.isSome_none, Option.isSome_some, zeroE]
        go_wp2_with fail
        refine (inForce_any A n c xs tt day known _ (HT.out.kept (hk3.alloc _)) hlt).mono ?_
        rw [HFy.out]
        rintro e w4 ⟨rfl, hk4⟩
        dsimp only [forV, eqV, Option.getD_none, Option.getD_some, Option.isSome_none, Option.isSome_some, zeroE]
        go_wp2
        go_ret2
        exact ⟨by rw [HO.out]; rfl, (((hk3.alloc _).trans hk4).alloc _)⟩
      · rcases hfy : inForceS xs tt day known with _ | y
        · have HO := Lib.hid (show exS xs fr tt m day known = (0, 10) by unfold exS; rw [← hE, if_pos h0, if_pos hv, hfx, hfy])
          have HFx := Lib.hid hfx
          have HFy := Lib.hid hfy
          clear hfx hfy h0 hE hv
          go_enter Tryz.func68, Tryz.ntmps68
          go_wp2_with fail
          refine (check_any A n c xs _ (HT.out.kept (Kept.refl _))).mono ?_
          rw [← HE.out]
          rintro e w1 ⟨rfl, hk1⟩
          go_wp2_with fail
          refine (within_any m 0 100000 _).mono ?_
          rw [HV.out]
          rintro e w2 ⟨rfl, rfl⟩
          go_wp2_with fail
          refine (inForce_any A n c xs fr day known _ (HT.out.kept hk1) hlt).mono ?_
          rw [HFx.out]
          rintro e w3 ⟨rfl, hk3'⟩
          have hk3 := hk1.trans hk3'
          dsimp only [forV, eqV, Option.getD_none, Option.getD_some, Option.isSome_none, Option.isSome_some, zeroE]
          go_wp2_with fail
          refine (inForce_any A n c xs tt day known _ (HT.out.kept (hk3.alloc _)) hlt).mono ?_
          rw [HFy.out]
          rintro e w4 ⟨rfl, hk4⟩
          dsimp only [forV, eqV, Option.getD_none, Option.getD_some, Option.isSome_none, Option.isSome_some, zeroE]
          go_wp2
          go_ret2
          exact ⟨by rw [HO.out]; rfl, (((hk3.alloc _).trans hk4).alloc _)⟩
        · have HO := Lib.hid (show exS xs fr tt m day known = (ratS (m * x.num) y.den (x.den * y.num), 0) by unfold exS; rw [← hE, if_pos h0, if_pos hv, hfx, hfy])
          have HFx := Lib.hid hfx
          have HFy := Lib.hid hfy
          obtain ⟨m0, m1⟩ := inB_iff.1 hv
          have hc0 : (chkS xs).2 = 0 := by rw [← hE]; exact h0
          obtain ⟨vx, px, qx⟩ := inForce_ok hc0 hfx
          obtain ⟨vy, py, qy⟩ := inForce_ok hc0 hfy
          obtain ⟨⟨bx1, bx2⟩, bx3, bx4⟩ := vld_bd vx
          obtain ⟨⟨by1, by2⟩, by3, by4⟩ := vld_bd vy
          have hxn : x.num ≤ 1000000000 := by omega
          have hyn : y.num ≤ 1000000000 := by omega
          have p1 := mul_bd (n := x.num) (d := m) 1000000000 100000 (by omega) hxn m0 m1 (by omega)
          have p2 := mul_bd (n := y.num) (d := x.den) 1000000000 1000000 (by omega) hyn (by omega) bx2 (by omega)
          have p3 := mul_pos1 bx1 (show 1 ≤ y.num by omega)
          have p4 := Int.mul_nonneg m0 (show 0 ≤ x.num by omega)
          have hbig : m * x.num * y.den < x.den * y.num * 18446744073709551616 := by
            have e1 : m * x.num ≤ 100000 * x.num := Int.mul_le_mul_of_nonneg_right m1 (by omega)
            have e2 : m * x.num ≤ 100000000 * x.den := by omega
            have e3 : m * x.num * y.den ≤ m * x.num * 1000000 := Int.mul_le_mul_of_nonneg_left by2 p4
            have e4 : x.den * 1 ≤ x.den * y.num := Int.mul_le_mul_of_nonneg_left (by omega) (by omega)
            omega
          rw [Int.mul_comm x.num m] at p1
          rw [Int.mul_comm y.num x.den] at p2
          obtain ⟨p11, p12⟩ := p1
          obtain ⟨p21, p22⟩ := p2
          clear hfx hfy h0 hE hv hc0 vx vy
          go_enter Tryz.func68, Tryz.ntmps68
          go_wp2_with fail
          refine (check_any A n c xs _ (HT.out.kept (Kept.refl _))).mono ?_
          rw [← HE.out]
          rintro e w1 ⟨rfl, hk1⟩
          go_wp2_with fail
          refine (within_any m 0 100000 _).mono ?_
          rw [HV.out]
          rintro e w2 ⟨rfl, rfl⟩
          go_wp2_with fail
          refine (inForce_any A n c xs fr day known _ (HT.out.kept hk1) hlt).mono ?_
          rw [HFx.out]
          rintro e w3 ⟨rfl, hk3'⟩
          have hk3 := hk1.trans hk3'
          dsimp only [forV, eqV, Option.getD_none, Option.getD_some, Option.isSome_none, Option.isSome_some, zeroE]
          go_wp2_with fail
          refine (inForce_any A n c xs tt day known _ (HT.out.kept (hk3.alloc _)) hlt).mono ?_
          rw [HFy.out]
          rintro e w4 ⟨rfl, hk4⟩
          dsimp only [forV, eqV, Option.getD_none, Option.getD_some, Option.isSome_none, Option.isSome_some, zeroE]
          have X : RowC w4 w3.heap.size (eqCells x) := RowC.kept (RowC.new w3 (eqCells x) 37) hk4
          have x4 := (X 4 _ rfl).1
          have x5 := (X 5 _ rfl).1
          have hX := cell_lt x4
          clear X
          go_wp2_with fail
          refine (ratio_all (m * x.num) y.den (x.den * y.num) (by omega) (by omega) (by omega) (by omega) (by omega) (by omega) hbig _).mono ?_
          rintro e w5 ⟨rfl, hk5⟩
          go_wp2
          go_ret2
          exact ⟨by rw [HO.out]; rfl, (((hk3.alloc _).trans hk4).alloc _).trans hk5⟩
    · have HO := Lib.hid (show exS xs fr tt m day known = (0, 1) by unfold exS; rw [← hE, if_pos h0, if_neg hv])
      have HV := Lib.hid (show inB m 0 100000 = false by simpa using hv)
      clear h0 hE hv
      go_enter Tryz.func68, Tryz.ntmps68
      go_wp2_with fail
      refine (check_any A n c xs _ (HT.out.kept (Kept.refl _))).mono ?_
      rw [← HE.out]
      rintro e w1 ⟨rfl, hk1⟩
      go_wp2_with fail
      refine (within_any m 0 100000 _).mono ?_
      rw [HV.out]
      rintro e w2 ⟨rfl, rfl⟩
      go_wp2
      go_ret2
      exact ⟨by rw [HO.out]; rfl, hk1⟩
  · have h0' : (E.2 != 0) = true := by simp [h0]
    have HO := Lib.hid (show exS xs fr tt m day known = (0, E.2) by unfold exS; rw [← hE, if_neg h0])
    clear h0 hE
    go_enter Tryz.func68, Tryz.ntmps68
    go_wp2_with fail
    refine (check_any A n c xs _ (HT.out.kept (Kept.refl _))).mono ?_
    rw [← HE.out]
    rintro e w1 ⟨rfl, hk1⟩
    go_wp2
    go_ret2
    exact ⟨by rw [HO.out]; rfl, hk1⟩
end Go.Proofs.YtcjpecdnenemaaaGreatDoor

namespace Go.Proofs.YtcjpecdnenemaaaGreatDoor
set_option linter.all false
open Go.RowKit Go.Shelf

set_option maxRecDepth 100000 in
set_option maxHeartbeats 1600000 in
theorem rmost_any (A : Option Addr) (n c : Nat) (xs : List Eqv) (sort : ByteArray) (sn sd day known : Int) (w : World) (hT : TabA w A n c xs) :
    Calls Tryz.prog 67 #[.slice A n c, .string sort, .agg #[.int .i64 sn, .int .i64 sd], .int .i64 day, .int .i64 known] w fun e w' => e = .returned (i2V (mostS xs sort sn sd day known)) ∧ Kept w w' := by
  have HT := Lib.hid hT
  clear hT
  obtain ⟨E, hE⟩ : ∃ E, E = chkS xs := ⟨_, rfl⟩
  have HE := Lib.hid hE
  have B0 : RowC (w.alloc (.cells #[.int .i64 sn, .int .i64 sd] 23)) w.heap.size [.int .i64 sn, .int .i64 sd] := RowC.new w [.int .i64 sn, .int .i64 sd] 23
  have HB0 := Lib.hid B0
  clear B0
  by_cases h0 : E.2 = 0
  · have h0' : (E.2 != 0) = false := by simp [h0]
    have HFm := Lib.hid (fun x hx => chk_form (x := x) (show (chkS xs).2 = 0 by rw [← hE]; exact h0) hx)
    by_cases hv : vld sn sd = true
    · have hb := vld_bd hv
      have HV := Lib.hid hv
      rcases hf : inForceS xs sort day known with _ | x
      · have HO := Lib.hid (show mostS xs sort sn sd day known = (0, 10) by unfold mostS; rw [← hE, if_pos h0, if_pos hv, hf])
        have HF := Lib.hid hf
        clear hf h0 hE hv hb
        go_enter Tryz.func67, Tryz.ntmps67
        go_wp2_with fail
        refine (rcheck_any A n c xs _ (HT.out.kept ((Kept.refl _).alloc _))).mono ?_
        rw [← HE.out]
        rintro e w1 ⟨rfl, hk1⟩
        have R := HB0.out.kept hk1
        have p0 := (R 0 _ rfl).1
        have p1 := (R 1 _ rfl).1
        go_wp2_with fail
        refine (rvalid_any sn sd _).mono ?_
        rw [HV.out]
        rintro e w2 ⟨rfl, hk2'⟩
        have hk2 := hk1.trans hk2'
        clear R p0 p1
        go_wp2_with fail
        refine (rinForce_for A n c xs sort day known _ ((HT.out.kept ((Kept.refl _).alloc _)).kept hk2) HFm.out).mono ?_
        rw [HF.out]
        rintro e w3 ⟨rfl, hk3'⟩
        have hk3 := hk2.trans hk3'
        dsimp only [forV, eqV, Option.getD_none, Option.isSome_none, zeroE]
        go_wp2
        go_ret2
        exact ⟨by rw [HO.out]; rfl, (((Kept.refl _).alloc _).trans hk3).alloc _⟩
      · have HO := Lib.hid (show mostS xs sort sn sd day known = (fitS sn sd x.num x.den, 0) by unfold mostS; rw [← hE, if_pos h0, if_pos hv, hf])
        have HF := Lib.hid hf
        have hok := inForce_ok (by rw [← hE]; exact h0) hf
        have hbx := vld_bd hok.1
        have hpx := hok.2.1
        clear hf h0 hE hv hok
        go_enter Tryz.func67, Tryz.ntmps67
        go_wp2_with fail
        refine (rcheck_any A n c xs _ (HT.out.kept ((Kept.refl _).alloc _))).mono ?_
        rw [← HE.out]
        rintro e w1 ⟨rfl, hk1⟩
        have R := HB0.out.kept hk1
        have p0 := (R 0 _ rfl).1
        have p1 := (R 1 _ rfl).1
        go_wp2_with fail
        refine (rvalid_any sn sd _).mono ?_
        rw [HV.out]
        rintro e w2 ⟨rfl, hk2'⟩
        have hk2 := hk1.trans hk2'
        clear R p0 p1
        go_wp2_with fail
        refine (rinForce_for A n c xs sort day known _ ((HT.out.kept ((Kept.refl _).alloc _)).kept hk2) HFm.out).mono ?_
        rw [HF.out]
        rintro e w3 ⟨rfl, hk3'⟩
        have hk3 := hk2.trans hk3'
        have R := HB0.out.kept hk3
        have p0 := (R 0 _ rfl).1
        have p1 := (R 1 _ rfl).1
        have hwl := cell_lt p0
        dsimp only [forV, eqV, Option.getD_some, Option.isSome_some]
        go_wp2_with fail
        refine (rfits_any x.num x.den sn sd 100000 hbx hb hpx (by omega) (by omega) _).mono ?_
        rw [rfit_eq (by omega) (by omega), show min (100000 : Int) (fitS sn sd x.num x.den) = fitS sn sd x.num x.den by unfold fitS ratS; split <;> omega]
        rintro e w4 ⟨rfl, hk4⟩
        go_wp2
        go_ret2
        exact ⟨by rw [HO.out]; rfl, ((((Kept.refl _).alloc _).trans hk3).alloc _).trans hk4⟩
    · have HO := Lib.hid (show mostS xs sort sn sd day known = (0, 1) by unfold mostS; rw [← hE, if_pos h0, if_neg hv])
      have HV := Lib.hid (show vld sn sd = false by simpa using hv)
      clear h0 hE hv
      go_enter Tryz.func67, Tryz.ntmps67
      go_wp2_with fail
      refine (rcheck_any A n c xs _ (HT.out.kept ((Kept.refl _).alloc _))).mono ?_
      rw [← HE.out]
      rintro e w1 ⟨rfl, hk1⟩
      have R := HB0.out.kept hk1
      have p0 := (R 0 _ rfl).1
      have p1 := (R 1 _ rfl).1
      go_wp2_with fail
      refine (rvalid_any sn sd _).mono ?_
      rw [HV.out]
      rintro e w2 ⟨rfl, hk2'⟩
      have hk2 := hk1.trans hk2'
      clear R p0 p1
      go_wp2
      go_ret2
      exact ⟨by rw [HO.out]; rfl, ((Kept.refl _).alloc _).trans hk2⟩
  · have h0' : (E.2 != 0) = true := by simp [h0]
    have HO := Lib.hid (show mostS xs sort sn sd day known = (0, E.2) by unfold mostS; rw [← hE, if_neg h0])
    clear h0 hE
    go_enter Tryz.func67, Tryz.ntmps67
    go_wp2_with fail
    refine (rcheck_any A n c xs _ (HT.out.kept ((Kept.refl _).alloc _))).mono ?_
    rw [← HE.out]
    rintro e w1 ⟨rfl, hk1⟩
    go_wp2
    go_ret2
    exact ⟨by rw [HO.out]; rfl, ((Kept.refl _).alloc _).trans hk1⟩
end Go.Proofs.YtcjpecdnenemaaaGreatDoor

namespace Go.Proofs.YtcjpecdnenemaaaGreatDoor
set_option linter.all false
open Go.RowKit Go.Shelf

/-- k of one sort take up at most what n of another do -/
def atmB (k bn bd n an ad : Int) : Bool := decide (k * bn * ad ≤ n * an * bd)
theorem atm_math {P bd p pr Q ad q qr : Int} (hP : bd * p + pr = P) (hQ : ad * q + qr = Q) (hb : 0 < bd) (ha : 0 < ad) (p0 : 0 ≤ pr) (p1 : pr < bd) (q0 : 0 ≤ qr) (q1 : qr < ad) :
    (p < q → P * ad ≤ Q * bd) ∧ (q < p → ¬ P * ad ≤ Q * bd) ∧ (p = q → (P * ad ≤ Q * bd ↔ pr * ad ≤ qr * bd)) := by
  obtain ⟨M, hM⟩ : ∃ M, bd * ad = M := ⟨_, rfl⟩
  have e1 : P * ad = M * p + pr * ad := by rw [← hP, Int.add_mul, ← hM, Int.mul_assoc, Int.mul_comm p ad, ← Int.mul_assoc]
  have e2 : Q * bd = M * q + qr * bd := by rw [← hQ, Int.add_mul, ← hM, Int.mul_comm bd ad, Int.mul_assoc, Int.mul_comm q bd, ← Int.mul_assoc]
  have b1 : pr * ad ≤ (bd - 1) * ad := Int.mul_le_mul_of_nonneg_right (by omega) (by omega)
  have b2 : qr * bd ≤ (ad - 1) * bd := Int.mul_le_mul_of_nonneg_right (by omega) (by omega)
  rw [Int.sub_mul, hM] at b1
  rw [Int.sub_mul, Int.mul_comm ad bd, hM] at b2
  have c1 := Int.mul_nonneg p0 (Int.le_of_lt ha)
  have c2 := Int.mul_nonneg q0 (Int.le_of_lt hb)
  have hM0 : 0 ≤ M := by rw [← hM]; exact Int.mul_nonneg (by omega) (by omega)
  rw [e1, e2]
  refine ⟨fun h => ?_, fun h => ?_, fun h => ?_⟩
  · have := Int.mul_le_mul_of_nonneg_left (show p + 1 ≤ q by omega) hM0
    rw [Int.mul_add] at this
    omega
  · have := Int.mul_le_mul_of_nonneg_left (show q + 1 ≤ p by omega) hM0
    rw [Int.mul_add] at this
    omega
  · rw [h]
    omega

set_option maxRecDepth 100000 in
set_option maxHeartbeats 1600000 in
theorem atMost_any (k bn bd n an ad : Int) (hb : Bd bn bd) (ha : Bd an ad) (hbn : 0 < bn) (hbn1 : bn ≤ 1000000000) (han : 0 < an) (han1 : an ≤ 1000000000) (k0 : 0 ≤ k) (k1 : k ≤ 100000) (n0 : 0 ≤ n) (n1 : n ≤ 100000) (w : World) :
    Calls Tryz.prog 133 #[.int .i64 k, .agg #[.int .i64 bn, .int .i64 bd], .int .i64 n, .agg #[.int .i64 an, .int .i64 ad]] w fun e w' => e = .returned (.bool (atmB k bn bd n an ad)) ∧ Kept w w' := by
  obtain ⟨⟨a1, a2⟩, a3, a4⟩ := ha
  obtain ⟨⟨b1, b2⟩, b3, b4⟩ := hb
  obtain ⟨W0, hW0⟩ : ∃ W0 : World, W0 = (w.alloc (.cells #[.int .i64 bn, .int .i64 bd] 23)).alloc (.cells #[.int .i64 an, .int .i64 ad] 23) := ⟨_, rfl⟩
  have K0 : RowKit.Hid (Kept w W0) := Lib.hid (by rw [hW0]; exact ((Kept.refl _).alloc _).alloc _)
  have r0 : RowC W0 w.heap.size [.int .i64 bn, .int .i64 bd] := by rw [hW0]; exact (RowC.new w _ 23).kept ((Kept.refl _).alloc _)
  have r1 : RowC W0 (w.heap.size + 1) [.int .i64 an, .int .i64 ad] := by
    have := RowC.new (w.alloc (.cells #[.int .i64 bn, .int .i64 bd] 23)) [.int .i64 an, .int .i64 ad] 23
    rw [World.size_alloc] at this
    rw [hW0]; exact this
  have HW0 := Lib.hid hW0
  have p0 := (r0 0 _ rfl).1
  have p1 := (r0 1 _ rfl).1
  have q0 := (r1 0 _ rfl).1
  have q1 := (r1 1 _ rfl).1
  have lp := cell_lt p0
  have lq := cell_lt q0
  clear r0 r1 hW0
  have m1 := mul_bd (n := bn) (d := k) 1000000000 100000 (by omega) hbn1 k0 k1 (by omega)
  have m2 := mul_bd (n := an) (d := n) 1000000000 100000 (by omega) han1 n0 n1 (by omega)
  have m3 := Int.mul_nonneg k0 (Int.le_of_lt hbn)
  have m4 := Int.mul_nonneg n0 (Int.le_of_lt han)
  rw [Int.mul_comm bn k] at m1
  rw [Int.mul_comm an n] at m2
  obtain ⟨P, hP⟩ : ∃ P, k * bn = P := ⟨_, rfl⟩
  obtain ⟨Q, hQ⟩ : ∃ Q, n * an = Q := ⟨_, rfl⟩
  rw [hP] at m1 m3
  rw [hQ] at m2 m4
  obtain ⟨m11, m12⟩ := m1
  obtain ⟨m21, m22⟩ := m2
  obtain ⟨p, hp⟩ : ∃ p, P / bd = p := ⟨_, rfl⟩
  obtain ⟨q, hq⟩ : ∃ q, Q / ad = q := ⟨_, rfl⟩
  obtain ⟨pr, hpr⟩ : ∃ p, P % bd = p := ⟨_, rfl⟩
  obtain ⟨qr, hqr⟩ : ∃ q, Q % ad = q := ⟨_, rfl⟩
  have eP : bd * p + pr = P := by rw [← hp, ← hpr]; exact Int.mul_ediv_add_emod P bd
  have eQ : ad * q + qr = Q := by rw [← hq, ← hqr]; exact Int.mul_ediv_add_emod Q ad
  have pr0 : 0 ≤ pr := by rw [← hpr]; exact Int.emod_nonneg _ (by omega)
  have qr0 : 0 ≤ qr := by rw [← hqr]; exact Int.emod_nonneg _ (by omega)
  have pr1 : pr < bd := by rw [← hpr]; exact Int.emod_lt_of_pos _ (by omega)
  have qr1 : qr < ad := by rw [← hqr]; exact Int.emod_lt_of_pos _ (by omega)
  have pp0 : 0 ≤ p := by rw [← hp]; exact Int.ediv_nonneg m3 (by omega)
  have qq0 : 0 ≤ q := by rw [← hq]; exact Int.ediv_nonneg m4 (by omega)
  have pp1 : p ≤ P := by rw [← hp]; exact Int.ediv_le_self _ m3
  have qq1 : q ≤ Q := by rw [← hq]; exact Int.ediv_le_self _ m4
  obtain ⟨t1, t2, t3⟩ := atm_math eP eQ (by omega) (by omega) pr0 pr1 qr0 qr1
  have hspec : atmB k bn bd n an ad = decide (P * ad ≤ Q * bd) := by unfold atmB; rw [hP, hQ]
  have w1 : IntKind.i64.wrap (k * bn) = P := by rw [hP]; exact IntWalk.i64_in _ (by omega)
  have w2 : IntKind.i64.wrap (n * an) = Q := by rw [hQ]; exact IntWalk.i64_in _ (by omega)
  have w3 : IntKind.i64.wrap p = p := IntWalk.i64_in _ (by omega)
  have w4 : IntKind.i64.wrap q = q := IntWalk.i64_in _ (by omega)
  have d1 : P.tdiv bd = p := by rw [← hp]; exact Int.tdiv_eq_ediv_of_nonneg m3
  have d2 : Q.tdiv ad = q := by rw [← hq]; exact Int.tdiv_eq_ediv_of_nonneg m4
  have f1 : P.tmod bd = pr := by rw [← hpr]; exact Int.tmod_eq_emod_of_nonneg m3
  have f2 : Q.tmod ad = qr := by rw [← hqr]; exact Int.tmod_eq_emod_of_nonneg m4
  have z1 : (bd == 0) = false := by simp; omega
  have z2 : (ad == 0) = false := by simp; omega
  have y1 : bd ≠ 0 := by omega
  have y2 : ad ≠ 0 := by omega
  have HT := Lib.hid hspec
  clear hspec hp hq hpr hqr hP hQ eP eQ m3 m4
  rcases (by omega : p < q ∨ q < p ∨ p = q) with h | h | h
  · have HR := Lib.hid (show atmB k bn bd n an ad = true by rw [HT.out]; exact decide_eq_true (t1 h))
    have c1 : (p != q) = true := by simp; omega
    have c2 : decide (p < q) = true := decide_eq_true h
    clear t1 t2 t3
    go_enter Tryz.func133, Tryz.ntmps133
    go_upto_region 1 with (fail)
    rw [← HW0.out]
    go_wp2
    go_ret
    exact ⟨by rw [HR.out]; rfl, K0.out⟩
  · have HR := Lib.hid (show atmB k bn bd n an ad = false by rw [HT.out]; exact decide_eq_false (t2 h))
    have c1 : (p != q) = true := by simp; omega
    have c2 : decide (p < q) = false := decide_eq_false (by omega)
    clear t1 t2 t3
    go_enter Tryz.func133, Tryz.ntmps133
    go_upto_region 1 with (fail)
    rw [← HW0.out]
    go_wp2
    go_ret
    exact ⟨by rw [HR.out]; rfl, K0.out⟩
  · subst h
    have HR := Lib.hid (show atmB k bn bd n an ad = decide (pr * ad ≤ qr * bd) by rw [HT.out]; exact decide_eq_decide.2 (t3 rfl))
    have g1 := mul_bd (n := pr) (d := ad) 1000000 1000000 (by omega) (by omega) (by omega) a2 (by omega)
    have g2 := mul_bd (n := qr) (d := bd) 1000000 1000000 (by omega) (by omega) (by omega) b2 (by omega)
    have w5 : IntKind.i64.wrap (pr * ad) = pr * ad := IntWalk.i64_in _ (by omega)
    have w6 : IntKind.i64.wrap (qr * bd) = qr * bd := IntWalk.i64_in _ (by omega)
    have w7 : IntKind.i64.wrap pr = pr := IntWalk.i64_in _ (by omega)
    have w8 : IntKind.i64.wrap qr = qr := IntWalk.i64_in _ (by omega)
    clear t1 t2 t3 g1 g2
    go_enter Tryz.func133, Tryz.ntmps133
    go_upto_region 1 with (fail)
    rw [← HW0.out]
    go_upto_region 5 with (fail)
    go_quiet (fail)
    go_wp2
    go_ret
    exact ⟨by rw [HR.out]; rfl, K0.out.drewN _⟩
end Go.Proofs.YtcjpecdnenemaaaGreatDoor

namespace Go.Proofs.YtcjpecdnenemaaaGreatDoor
set_option linter.all false
open Go.RowKit Go.Shelf

set_option maxRecDepth 100000 in
set_option maxHeartbeats 1600000 in
theorem rexchange_any (A : Option Addr) (n c : Nat) (xs : List Eqv) (fr tt : ByteArray) (m day known : Int) (w : World) (hT : TabA w A n c xs) :
    Calls Tryz.prog 69 #[.slice A n c, .string fr, .string tt, .int .i64 m, .int .i64 day, .int .i64 known] w fun e w' => e = .returned (i2V (exS xs fr tt m day known)) ∧ Kept w w' := by
  have HT := Lib.hid hT
  clear hT
  obtain ⟨E, hE⟩ : ∃ E, E = chkS xs := ⟨_, rfl⟩
  have HE := Lib.hid hE
  by_cases h0 : E.2 = 0
  · have h0' : (E.2 != 0) = false := by simp [h0]
    have HFm := Lib.hid (fun x hx => chk_form (x := x) (show (chkS xs).2 = 0 by rw [← hE]; exact h0) hx)
    by_cases hv : inB m 0 100000 = true
    · have HV := Lib.hid hv
      obtain ⟨m0, m1⟩ := inB_iff.1 hv
      have d0 : decide (m < 0) = false := decide_eq_false (by omega)
      have d1 : decide (100000 < m) = false := decide_eq_false (by omega)
      rcases hfx : inForceS xs fr day known with _ | x
      · obtain ⟨y, hy⟩ : ∃ y, inForceS xs tt day known = y := ⟨_, rfl⟩
        have HO := Lib.hid (show exS xs fr tt m day known = (0, 10) by unfold exS; rw [← hE, if_pos h0, if_pos hv, hfx])
        have HFx := Lib.hid hfx
        have HFy := Lib.hid hy
        clear hfx hy h0 hE hv
        go_enter Tryz.func69, Tryz.ntmps69
        go_wp2_with fail
        refine (rcheck_any A n c xs _ (HT.out.kept (Kept.refl _))).mono ?_
        rw [← HE.out]
        rintro e w1 ⟨rfl, hk1⟩
        go_wp2_with fail
        refine (rinForce_for A n c xs fr day known _ (HT.out.kept hk1) HFm.out).mono ?_
        rw [HFx.out]
        rintro e w3 ⟨rfl, hk3'⟩
        have hk3 := hk1.trans hk3'
        dsimp only [forV, eqV, Option.getD_none, Option.getD_some, Option.isSome_none, Option.isSome_some, zeroE]
        go_wp2_with fail
        refine (rinForce_for A n c xs tt day known _ (HT.out.kept (hk3.alloc _)) HFm.out).mono ?_
        rw [HFy.out]
        rintro e w4 ⟨rfl, hk4⟩
        dsimp only [forV, eqV, Option.getD_none, Option.getD_some, Option.isSome_none, Option.isSome_some, zeroE]
        go_wp2
        go_ret2
        exact ⟨by rw [HO.out]; rfl, (((hk3.alloc _).trans hk4).alloc _)⟩
      · rcases hfy : inForceS xs tt day known with _ | y
        · have HO := Lib.hid (show exS xs fr tt m day known = (0, 10) by unfold exS; rw [← hE, if_pos h0, if_pos hv, hfx, hfy])
          have HFx := Lib.hid hfx
          have HFy := Lib.hid hfy
          clear hfx hfy h0 hE hv
          go_enter Tryz.func69, Tryz.ntmps69
          go_wp2_with fail
          refine (rcheck_any A n c xs _ (HT.out.kept (Kept.refl _))).mono ?_
          rw [← HE.out]
          rintro e w1 ⟨rfl, hk1⟩
          go_wp2_with fail
          refine (rinForce_for A n c xs fr day known _ (HT.out.kept hk1) HFm.out).mono ?_
          rw [HFx.out]
          rintro e w3 ⟨rfl, hk3'⟩
          have hk3 := hk1.trans hk3'
          dsimp only [forV, eqV, Option.getD_none, Option.getD_some, Option.isSome_none, Option.isSome_some, zeroE]
          go_wp2_with fail
          refine (rinForce_for A n c xs tt day known _ (HT.out.kept (hk3.alloc _)) HFm.out).mono ?_
          rw [HFy.out]
          rintro e w4 ⟨rfl, hk4⟩
          dsimp only [forV, eqV, Option.getD_none, Option.getD_some, Option.isSome_none, Option.isSome_some, zeroE]
          go_wp2
          go_ret2
          exact ⟨by rw [HO.out]; rfl, (((hk3.alloc _).trans hk4).alloc _)⟩
        · obtain ⟨vx, px, qx⟩ := inForce_ok (show (chkS xs).2 = 0 by rw [← hE]; exact h0) hfx
          obtain ⟨vy, py, qy⟩ := inForce_ok (show (chkS xs).2 = 0 by rw [← hE]; exact h0) hfy
          have HFx := Lib.hid hfx
          have HFy := Lib.hid hfy
          obtain ⟨R, hR⟩ : ∃ R, ratS (m * x.num) y.den (x.den * y.num) = R := ⟨_, rfl⟩
          have HO := Lib.hid (show exS xs fr tt m day known = (R, 0) by unfold exS; rw [← hE, if_pos h0, if_pos hv, hfx, hfy, ← hR])
          obtain ⟨xi, xf, xk, xz, xn, xd, xo⟩ := x
          obtain ⟨yi, yf, yk, yz, yn, yd, yo⟩ := y
          dsimp only at vx px qx vy py qy hR
          have HB := Lib.hid (And.intro (vld_bd vx) (vld_bd vy))
          obtain ⟨⟨⟨bx1, bx2⟩, bx3, bx4⟩, ⟨by1, by2⟩, by3, by4⟩ := HB.out
          have HN := Lib.hid (show 0 < xn ∧ xn ≤ 1000000000 ∧ 0 < yn ∧ yn ≤ 1000000000 by omega)
          have HM := Lib.hid (And.intro m0 m1)
          have HA := Lib.hid (show ∀ k, 0 ≤ k → k ≤ 100000 → atmB k yn yd m xn xd = decide (k ≤ R) from fun k k0 k1 => by
            have hc : 0 < xd * yn := Int.mul_pos (by omega) (by omega)
            unfold atmB
            refine decide_eq_decide.2 ?_
            rw [← hR]
            unfold ratS
            rw [Int.mul_assoc k yn xd, Int.mul_comm yn xd, ← Int.le_ediv_iff_mul_le hc]
            omega)
          have HR01 := Lib.hid (show 0 ≤ R ∧ R ≤ 100000 by
            have h9 : 0 ≤ m * xn * yd / (xd * yn) := Int.ediv_nonneg (Int.mul_nonneg (Int.mul_nonneg m0 (by omega)) (by omega)) (Int.mul_nonneg (by omega) (by omega))
            rw [← hR]
            unfold ratS
            omega)
          clear hfx hfy h0 hE hv vx vy px qx py qy hR bx1 bx2 bx3 bx4 by1 by2 by3 by4
          go_enter Tryz.func69, Tryz.ntmps69
          go_wp2_with fail
          refine (rcheck_any A n c xs _ (HT.out.kept (Kept.refl _))).mono ?_
          rw [← HE.out]
          rintro e w1 ⟨rfl, hk1⟩
          go_wp2_with fail
          refine (rinForce_for A n c xs fr day known _ (HT.out.kept hk1) HFm.out).mono ?_
          rw [HFx.out]
          rintro e w3 ⟨rfl, hk3'⟩
          have hk3 := hk1.trans hk3'
          dsimp only [forV, eqV, Option.getD_none, Option.getD_some, Option.isSome_none, Option.isSome_some, zeroE]
          go_wp2_with fail
          refine (rinForce_for A n c xs tt day known _ (HT.out.kept (hk3.alloc _)) HFm.out).mono ?_
          rw [HFy.out]
          rintro e w4 ⟨rfl, hk4⟩
          dsimp only [forV, eqV, Option.getD_none, Option.getD_some, Option.isSome_none, Option.isSome_some, zeroE]
          have X := Lib.hid (RowC.kept (RowC.new w3 (eqCells ⟨xi, xf, xk, xz, xn, xd, xo⟩) 37) hk4)
          have K4 := Lib.hid ((hk3.alloc _).trans hk4)
          obtain ⟨W5, hW5⟩ : ∃ W5, W5 = w4.alloc (.cells #[.int .i64 yi, .int .i64 yf, .int .i64 yk, .string yz, .int .i64 yn, .int .i64 yd, .int .i64 yo] 37) := ⟨_, rfl⟩
          have K5 := Lib.hid (show Kept w W5 by rw [hW5]; exact K4.out.alloc _)
          have X5 := Lib.hid (show RowC W5 w3.heap.size (eqCells ⟨xi, xf, xk, xz, xn, xd, xo⟩) by rw [hW5]; exact X.out.kept ((Kept.refl _).alloc _))
          have Y5 := Lib.hid (show RowC W5 w4.heap.size (eqCells ⟨yi, yf, yk, yz, yn, yd, yo⟩) by rw [hW5]; exact RowC.new w4 (eqCells ⟨yi, yf, yk, yz, yn, yd, yo⟩) 37)
          have HW5 := Lib.hid hW5
          clear hW5 hk3 hk4 hk3' hk1 m0 m1
          go_upto_region 10 with (fail)
          rw [← HW5.out]
          go_wp2_with fail
          go_loopw [20, 21] (fun lv hv wr => ∃ lo hi : Int, lv = .int .i64 lo ∧ hv = .int .i64 hi ∧ 0 ≤ lo ∧ lo ≤ R ∧ R ≤ hi ∧ hi ≤ 100000 ∧ Kept W5 wr) (fun lv hv _ => (intOf hv - intOf lv).toNat)
          case atStart => exact ⟨0, 100000, by first | rfl | go_num, by first | rfl | go_num, by omega, HR01.out.1, HR01.out.2, by omega, Kept.refl _⟩
          case round =>
            obtain ⟨lo, hi, rfl, rfl, l0, lR, Rh, h1, hkr⟩ := hrel
            have HKr := Lib.hid hkr
            clear hkr
            by_cases hlh : lo < hi
            · obtain ⟨k, hk⟩ : ∃ k, (lo + hi + 1) / 2 = k := ⟨_, rfl⟩
              have e1 : (lo + hi + 1).tdiv 2 = k := by rw [← hk]; exact Int.tdiv_eq_ediv_of_nonneg (by omega)
              have lk : lo < k := by omega
              have kh : k ≤ hi := by omega
              have x4 := (X5.out.kept HKr.out 4 _ rfl).1
              have x5 := (X5.out.kept HKr.out 5 _ rfl).1
              have y4 := (Y5.out.kept HKr.out 4 _ rfl).1
              have y5 := (Y5.out.kept HKr.out 5 _ rfl).1
              have lx := cell_lt x4
              have ly := cell_lt y4
              clear hk
              go_wp2_with fail
              refine (atMost_any k yn yd m xn xd HB.out.2 HB.out.1 HN.out.2.2.1 HN.out.2.2.2 HN.out.1 HN.out.2.1 (by omega) (by omega) HM.out.1 HM.out.2 _).mono ?_
              rw [HA.out k (by omega) (by omega)]
              rintro e w6 ⟨rfl, hk6⟩
              by_cases hkR : k ≤ R
              · have dk : decide (k ≤ R) = true := decide_eq_true hkR
                rw [dk]
                go_wp2
                go_roundw
                case rel =>
                  have hk9 := HKr.out.trans hk6
                  first
                    | exact ⟨k, hi, by first | rfl | go_num, by first | rfl | go_num, by omega, hkR, Rh, h1, hk9⟩
                    | ((repeat apply Exists.intro); exact ⟨⟨k, hi, by first | rfl | go_num, by first | rfl | go_num, by omega, hkR, Rh, h1, hk9⟩, rfl⟩)
                case measure => simp [intOf]; omega
              · have dk : decide (k ≤ R) = false := decide_eq_false hkR
                rw [dk]
                go_wp2
                go_roundw
                case rel =>
                  have hk9 := HKr.out.trans hk6
                  first
                    | exact ⟨lo, k - 1, by first | rfl | go_num, by first | rfl | go_num, l0, lR, by omega, by omega, hk9⟩
                    | ((repeat apply Exists.intro); exact ⟨⟨lo, k - 1, by first | rfl | go_num, by first | rfl | go_num, l0, lR, by omega, by omega, hk9⟩, rfl⟩)
                case measure => simp [intOf]; omega
            · obtain rfl : lo = R := by omega
              go_wp2
              go_ret2
              exact ⟨by rw [HO.out]; rfl, K5.out.trans HKr.out⟩
    · have HO := Lib.hid (show exS xs fr tt m day known = (0, 1) by unfold exS; rw [← hE, if_pos h0, if_neg hv])
      have hvv : m < 0 ∨ 0 ≤ m ∧ 100000 < m := by
        have : ¬ (0 ≤ m ∧ m ≤ 100000) := fun h => hv (inB_iff.2 h)
        omega
      clear h0 hE hv
      rcases hvv with hm | ⟨hm0, hm⟩
      · have d0 : decide (m < 0) = true := decide_eq_true hm
        go_enter Tryz.func69, Tryz.ntmps69
        go_wp2_with fail
        refine (rcheck_any A n c xs _ (HT.out.kept (Kept.refl _))).mono ?_
        rw [← HE.out]
        rintro e w1 ⟨rfl, hk1⟩
        go_wp2
        go_ret2
        exact ⟨by rw [HO.out]; rfl, hk1⟩
      · have d0 : decide (m < 0) = false := decide_eq_false (by omega)
        have d1 : decide (100000 < m) = true := decide_eq_true hm
        go_enter Tryz.func69, Tryz.ntmps69
        go_wp2_with fail
        refine (rcheck_any A n c xs _ (HT.out.kept (Kept.refl _))).mono ?_
        rw [← HE.out]
        rintro e w1 ⟨rfl, hk1⟩
        go_wp2
        go_ret2
        exact ⟨by rw [HO.out]; rfl, hk1⟩
  · have h0' : (E.2 != 0) = true := by simp [h0]
    have HO := Lib.hid (show exS xs fr tt m day known = (0, E.2) by unfold exS; rw [← hE, if_neg h0])
    clear h0 hE
    go_enter Tryz.func69, Tryz.ntmps69
    go_wp2_with fail
    refine (rcheck_any A n c xs _ (HT.out.kept (Kept.refl _))).mono ?_
    rw [← HE.out]
    rintro e w1 ⟨rfl, hk1⟩
    go_wp2
    go_ret2
    exact ⟨by rw [HO.out]; rfl, hk1⟩
end Go.Proofs.YtcjpecdnenemaaaGreatDoor

namespace Go.Proofs.YtcjpecdnenemaaaGreatDoor
set_option linter.all false
open Go.RowKit Go.Shelf

set_option maxRecDepth 100000 in
set_option maxHeartbeats 1600000 in
theorem most9_any (A : Option Addr) (n c : Nat) (xs : List Eqv) (fr tt : ByteArray) (sn sd m day known : Int) (w : World) (hT : TabA w A n c xs) (hE : Env w) :
    Calls Tryz.prog 9 #[.slice A n c, .string fr, .string tt, .agg #[.int .i64 sn, .int .i64 sd], .int .i64 m, .int .i64 day, .int .i64 known] w fun e w' => e = .returned (.bool true) ∧ Kept w w' := by
  have hnc := hT.2.1
  have hcm := hT.2.2.1
  obtain ⟨W0, hW0⟩ : ∃ W0, W0 = w.alloc (.cells #[.int .i64 sn, .int .i64 sd] 23) := ⟨_, rfl⟩
  have K0 : RowKit.Hid (Kept w W0) := Lib.hid (by rw [hW0]; exact (Kept.refl _).alloc _)
  have R0 : RowKit.Hid (RowC W0 w.heap.size [.int .i64 sn, .int .i64 sd]) := Lib.hid (by rw [hW0]; exact RowC.new w _ 23)
  have HW0 := Lib.hid hW0
  have HT := Lib.hid (hT.kept K0.out)
  have HE := Lib.hid (hE.kept K0.out)
  clear hT hE hW0
  obtain ⟨fb, hfb⟩ : ∃ fb, fb = fewB n := ⟨_, rfl⟩
  have HFB := Lib.hid hfb
  have HF : RowKit.Hid (∀ W, Calls Tryz.prog 47 #[.slice A n c] W fun e w' => e = .returned (.bool fb) ∧ W = w') := Lib.hid (fun W => by rw [hfb]; exact few_any A n c (by omega) W)
  clear hfb
  cases fb
  · go_enter Tryz.func9, Tryz.ntmps9
    go_upto_region 1 with (fail)
    rw [← HW0.out]
    go_wp2_with fail
    refine (HF.out _).mono ?_
    rintro e w1 ⟨rfl, rfl⟩
    go_wp2_with fail
    refine (alive_any _ HE.out).mono ?_
    rintro e w2 ⟨rfl, hk2⟩
    go_wp2
    go_ret
    exact ⟨rfl, K0.out.trans hk2⟩
  have hlt : n ≤ 1000000 := by have := few_le HFB.out.symm; omega
  have BAIL : (fr.size ≤ 100 → ¬ tt.size ≤ 100) → Calls Tryz.prog 9 #[.slice A n c, .string fr, .string tt, .agg #[.int .i64 sn, .int .i64 sd], .int .i64 m, .int .i64 day, .int .i64 known] w fun e w' => e = .returned (.bool true) ∧ Kept w w' := by
    intro hb
    by_cases l1 : fr.size ≤ 100
    · have l2 := hb l1
      have d1 : ¬ (100 : Int) < (fr.size : Int) := by omega
      have d2 : (100 : Int) < (tt.size : Int) := by omega
      clear hb
      go_enter Tryz.func9, Tryz.ntmps9
      go_upto_region 1 with (fail)
      rw [← HW0.out]
      go_wp2_with fail
      refine (HF.out _).mono ?_
      rintro e w1 ⟨rfl, rfl⟩
      go_wp2_with fail
      refine (alive_any _ HE.out).mono ?_
      rintro e w2 ⟨rfl, hk2⟩
      go_wp2
      go_ret
      exact ⟨rfl, K0.out.trans hk2⟩
    · have d1 : (100 : Int) < (fr.size : Int) := by omega
      clear hb
      go_enter Tryz.func9, Tryz.ntmps9
      go_upto_region 1 with (fail)
      rw [← HW0.out]
      go_wp2_with fail
      refine (HF.out _).mono ?_
      rintro e w1 ⟨rfl, rfl⟩
      go_wp2_with fail
      refine (alive_any _ HE.out).mono ?_
      rintro e w2 ⟨rfl, hk2⟩
      go_wp2
      go_ret
      exact ⟨rfl, K0.out.trans hk2⟩
  by_cases l1 : fr.size ≤ 100
  · by_cases l2 : tt.size ≤ 100
    · clear BAIL
      have d1 : ¬ (100 : Int) < (fr.size : Int) := by omega
      have d2 : ¬ (100 : Int) < (tt.size : Int) := by omega
      obtain ⟨⟨x0, x1⟩, hx⟩ : ∃ r, r = mostS xs fr sn sd day known := ⟨_, rfl⟩
      obtain ⟨⟨y0, y1⟩, hy⟩ : ∃ r, r = exS xs fr tt m day known := ⟨_, rfl⟩
      have C66 : RowKit.Hid (∀ W, Kept W0 W → Calls Tryz.prog 66 #[.slice A n c, .string fr, .agg #[.int .i64 sn, .int .i64 sd], .int .i64 day, .int .i64 known] W fun e w' => e = .returned (.tuple #[.int .i64 x0, .int .i64 x1]) ∧ Kept W w') := Lib.hid (fun W hW => by
        have := most_any A n c xs fr sn sd day known W (HT.out.kept hW) hlt
        rw [← hx] at this
        exact this)
      have C67 : RowKit.Hid (∀ W, Kept W0 W → Calls Tryz.prog 67 #[.slice A n c, .string fr, .agg #[.int .i64 sn, .int .i64 sd], .int .i64 day, .int .i64 known] W fun e w' => e = .returned (.tuple #[.int .i64 x0, .int .i64 x1]) ∧ Kept W w') := Lib.hid (fun W hW => by
        have := rmost_any A n c xs fr sn sd day known W (HT.out.kept hW)
        rw [← hx] at this
        exact this)
      have C68 : RowKit.Hid (∀ W, Kept W0 W → Calls Tryz.prog 68 #[.slice A n c, .string fr, .string tt, .int .i64 m, .int .i64 day, .int .i64 known] W fun e w' => e = .returned (.tuple #[.int .i64 y0, .int .i64 y1]) ∧ Kept W w') := Lib.hid (fun W hW => by
        have := exchange_all A n c xs fr tt m day known W (HT.out.kept hW) hlt
        rw [← hy] at this
        exact this)
      have C69 : RowKit.Hid (∀ W, Kept W0 W → Calls Tryz.prog 69 #[.slice A n c, .string fr, .string tt, .int .i64 m, .int .i64 day, .int .i64 known] W fun e w' => e = .returned (.tuple #[.int .i64 y0, .int .i64 y1]) ∧ Kept W w') := Lib.hid (fun W hW => by
        have := rexchange_any A n c xs fr tt m day known W (HT.out.kept hW)
        rw [← hy] at this
        exact this)
      clear hx hy l1 l2
      go_enter Tryz.func9, Tryz.ntmps9
      go_upto_region 1 with (fail)
      rw [← HW0.out]
      have a0 := (R0.out 0 _ rfl).1
      have a1 := (R0.out 1 _ rfl).1
      have la := cell_lt a0
      go_wp2_with fail
      refine (HF.out _).mono ?_
      rintro e w1 ⟨rfl, rfl⟩
      go_wp2_with fail
      refine (C66.out _ (Kept.refl _)).mono ?_
      rintro e w2 ⟨rfl, hk2⟩
      have K2 := Lib.hid hk2
      have b0 := (R0.out.kept K2.out 0 _ rfl).1
      have b1 := (R0.out.kept K2.out 1 _ rfl).1
      have lb := cell_lt b0
      clear hk2 a0 a1 la
      go_wp2_with fail
      refine (C67.out _ K2.out).mono ?_
      rintro e w3 ⟨rfl, hk3⟩
      have K3 := Lib.hid (K2.out.trans hk3)
      clear hk3 b0 b1 lb
      go_wp2_with fail
      refine (C68.out _ K3.out).mono ?_
      rintro e w4 ⟨rfl, hk4⟩
      have K4 := Lib.hid (K3.out.trans hk4)
      clear hk4
      go_wp2_with fail
      refine (C69.out _ K4.out).mono ?_
      rintro e w5 ⟨rfl, hk5⟩
      have K5 := Lib.hid (K4.out.trans hk5)
      clear hk5
      go_wp2_with fail
      refine (alive_any _ (HE.out.kept K5.out)).mono ?_
      rintro e w6 ⟨rfl, hk6⟩
      go_wp2
      go_ret
      exact ⟨rfl, (K0.out.trans K5.out).trans hk6⟩
    · exact BAIL (fun _ => l2)
  · exact BAIL (fun h => absurd h l1)
end Go.Proofs.YtcjpecdnenemaaaGreatDoor

