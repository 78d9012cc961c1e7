/-
  Division of two words by one, a digit at a time (Knuth's estimate; no run in this text).
-/
import Derived.Test.YtcjpecdnenemaaaGreatDoorGN
import Derived.Lib.ItoaNum
import Derived.Laws.Bits64b
namespace Go.Proofs.YtcjpecdnenemaaaGreatDoor
set_option linter.all false

/-- so many places does the divisor want to the left -/
theorem dv_norm (y : Nat) (h0 : 0 < y) (h1 : y < 18446744073709551616) :
    ∃ s : Nat, s ≤ 63 ∧ (64 : Int) - (Lib.bitLen y : Int) = (s : Int) ∧ 9223372036854775808 ≤ y * 2 ^ s ∧ y * 2 ^ s < 18446744073709551616 := by
  obtain ⟨a, b, c⟩ := Lib.bitLenAux_bounds 64 y (by omega) (by omega)
  have d : Lib.bitLen y ≤ 64 := Lib.bitLen_le y 64 (by omega) (by omega)
  unfold Lib.bitLen at d ⊢
  generalize Lib.bitLenAux 64 y = L at a b c d ⊢
  refine ⟨64 - L, by omega, by omega, ?_, ?_⟩
  · have e : 2 ^ (L - 1) * 2 ^ (64 - L) = 9223372036854775808 := by rw [← Nat.pow_add, show L - 1 + (64 - L) = 63 by omega]
    rw [← e]
    exact Nat.mul_le_mul_right _ b
  · have e : 2 ^ L * 2 ^ (64 - L) = 18446744073709551616 := by rw [← Nat.pow_add, show L + (64 - L) = 64 by omega]
    rw [← e]
    exact Nat.mul_lt_mul_of_pos_right c (Nat.two_pow_pos _)

/-- the estimate and what is left of it, for the digit d behind u, divided by n * B + m -/
structure Est (u d n m q r : Nat) : Prop where
  eq : q * n + r = u
  ge : (u * 4294967296 + d) / (n * 4294967296 + m) ≤ q
  le : q ≤ 4294967297
  lt : r < 4294967296

theorem est_mul (q r n m : Nat) : q * (n * 4294967296 + m) = q * n * 4294967296 + q * m := by
  rw [Nat.mul_add, Nat.mul_assoc]

theorem est_start {u d n m : Nat} (hd : d < 4294967296) (hn : 2147483648 ≤ n) (hn1 : n < 4294967296) (hm : m < 4294967296) (hu : u < n * 4294967296 + m) :
    Est u d n m (u / n) (u - u / n * n) := by
  have e1 := Nat.div_add_mod u n
  have e2 := Nat.mod_lt u (by omega : 0 < n)
  rw [Nat.mul_comm] at e1
  obtain ⟨q, hq⟩ : ∃ q, u / n = q := ⟨_, rfl⟩
  obtain ⟨r, hr⟩ : ∃ r, u % n = r := ⟨_, rfl⟩
  rw [hq, hr] at e1
  rw [hr] at e2
  rw [hq]
  have h3 : u - q * n = r := by omega
  rw [h3]
  refine ⟨e1, ?_, ?_, by omega⟩
  · refine Nat.le_of_lt_succ ((Nat.div_lt_iff_lt_mul (by omega)).2 ?_)
    rw [est_mul (q + 1) 0 n m, Nat.succ_mul]
    omega
  · refine Nat.le_of_lt_succ ?_
    refine Nat.lt_of_mul_lt_mul_right (a := n) ?_
    omega

/-- the digit itself is below the base -/
theorem est_dig {u d n m : Nat} (hd : d < 4294967296) (hu : u < n * 4294967296 + m) : (u * 4294967296 + d) / (n * 4294967296 + m) < 4294967296 := by
  refine (Nat.div_lt_iff_lt_mul (by omega)).2 ?_
  rw [Nat.mul_comm 4294967296]
  omega

/-- the test does not hold: the estimate is the digit -/
theorem est_done {u d n m q r : Nat} (h : Est u d n m q r) (hp : 0 < n) (ht : q * m ≤ 4294967296 * r + d) : q = (u * 4294967296 + d) / (n * 4294967296 + m) := by
  obtain ⟨a, b, c, e⟩ := h
  refine Nat.le_antisymm ((Nat.le_div_iff_mul_le (by omega)).2 ?_) b
  rw [est_mul q 0 n m, ← a]
  omega

/-- the test holds: the estimate is too great -/
theorem est_more {u d n m q r : Nat} (h : Est u d n m q r) (hd : d < 4294967296) (hu : u < n * 4294967296 + m) (ht : 4294967296 ≤ q ∨ 4294967296 * r + d < q * m) :
    0 < q ∧ (u * 4294967296 + d) / (n * 4294967296 + m) ≤ q - 1 ∧ (q - 1) * n + (r + n) = u := by
  obtain ⟨a, b, c, e⟩ := h
  have hlt : (u * 4294967296 + d) / (n * 4294967296 + m) < q := by
    rcases ht with ht | ht
    · exact Nat.lt_of_lt_of_le (est_dig hd hu) ht
    · refine (Nat.div_lt_iff_lt_mul (by omega)).2 ?_
      rw [est_mul q 0 n m, ← a]
      omega
  have hq0 : 0 < q := Nat.lt_of_le_of_lt (Nat.zero_le _) hlt
  obtain ⟨p, rfl⟩ : ∃ p, q = p + 1 := ⟨q - 1, by omega⟩
  refine ⟨by omega, Nat.le_of_lt_succ hlt, ?_⟩
  rw [Nat.succ_mul] at a
  rw [Nat.add_sub_cancel]
  omega

theorem est_next {u d n m q r : Nat} (h : Est u d n m q r) (hd : d < 4294967296) (hu : u < n * 4294967296 + m) (ht : 4294967296 ≤ q ∨ 4294967296 * r + d < q * m) (hr : r + n < 4294967296) :
    Est u d n m (q - 1) (r + n) := by
  obtain ⟨a, b, c⟩ := est_more h hd hu ht
  exact ⟨c, b, by have := h.le; omega, hr⟩

theorem est_break {u d n m q r : Nat} (h : Est u d n m q r) (hd : d < 4294967296) (hm : m < 4294967296) (hu : u < n * 4294967296 + m) (ht : 4294967296 ≤ q ∨ 4294967296 * r + d < q * m) (hr : 4294967296 ≤ r + n) :
    q - 1 = (u * 4294967296 + d) / (n * 4294967296 + m) := by
  obtain ⟨a, b, c⟩ := est_more h hd hu ht
  have hl := h.le
  refine Nat.le_antisymm ((Nat.le_div_iff_mul_le (by omega)).2 ?_) b
  obtain ⟨p, hp⟩ : ∃ p, q - 1 = p := ⟨_, rfl⟩
  rw [hp] at c ⊢
  rw [est_mul p 0 n m]
  have h1 : p * m ≤ 4294967296 * m := Nat.mul_le_mul_right m (by omega)
  omega

/-- two digits make the quotient -/
theorem two_digits (U u1 u0 y : Nat) (hy : 0 < y) :
    (U * 4294967296 + u1) / y * 4294967296 + ((U * 4294967296 + u1) % y * 4294967296 + u0) / y = (U * 18446744073709551616 + (u1 * 4294967296 + u0)) / y ∧
    ((U * 4294967296 + u1) % y * 4294967296 + u0) % y = (U * 18446744073709551616 + (u1 * 4294967296 + u0)) % y := by
  have e := Nat.div_add_mod (U * 4294967296 + u1) y
  obtain ⟨Q, hQ⟩ : ∃ Q, (U * 4294967296 + u1) / y = Q := ⟨_, rfl⟩
  obtain ⟨R, hR⟩ : ∃ R, (U * 4294967296 + u1) % y = R := ⟨_, rfl⟩
  rw [hQ, hR] at e
  rw [hQ, hR]
  have h : U * 18446744073709551616 + (u1 * 4294967296 + u0) = (R * 4294967296 + u0) + y * (Q * 4294967296) := by
    rw [← Nat.mul_assoc]
    omega
  rw [h, Nat.add_mul_div_left _ _ hy, Nat.add_mul_mod_self_left]
  exact ⟨Nat.add_comm _ _, rfl⟩

/-- the dividend, shifted by s places, in its two words -/
theorem dv_shift (hi lo y s : Nat) (hs : s ≤ 63) (h3 : lo < 18446744073709551616) (h1 : hi < y) (hy : y * 2 ^ s < 18446744073709551616) :
    hi * 2 ^ s ||| lo / 2 ^ (64 - s) = hi * 2 ^ s + lo / 2 ^ (64 - s) ∧ hi * 2 ^ s + lo / 2 ^ (64 - s) < y * 2 ^ s ∧
    (hi * 2 ^ s + lo / 2 ^ (64 - s)) * 18446744073709551616 + lo * 2 ^ s % 18446744073709551616 = (hi * 18446744073709551616 + lo) * 2 ^ s := by
  have hp : 0 < 2 ^ s := Nat.two_pow_pos s
  have hsplit : 2 ^ s * 2 ^ (64 - s) = 18446744073709551616 := by rw [← Nat.pow_add, show s + (64 - s) = 64 by omega]
  have hq : lo / 2 ^ (64 - s) < 2 ^ s := (Nat.div_lt_iff_lt_mul (Nat.two_pow_pos _)).2 (by rw [hsplit]; exact h3)
  refine ⟨?_, ?_, ?_⟩
  · rw [Nat.mul_comm]
    exact (Nat.two_pow_add_eq_or_of_lt hq hi).symm
  · have : (hi + 1) * 2 ^ s ≤ y * 2 ^ s := Nat.mul_le_mul_right _ h1
    rw [Nat.succ_mul] at this
    omega
  · have e := Nat.div_add_mod lo (2 ^ (64 - s))
    obtain ⟨a, ha⟩ : ∃ a, lo / 2 ^ (64 - s) = a := ⟨_, rfl⟩
    obtain ⟨b, hb⟩ : ∃ b, lo % 2 ^ (64 - s) = b := ⟨_, rfl⟩
    have hb1 := Nat.mod_lt lo (Nat.two_pow_pos (64 - s))
    rw [hb] at hb1
    rw [ha, hb] at e
    rw [ha]
    have e2 : lo * 2 ^ s = b * 2 ^ s + 18446744073709551616 * a := by
      rw [← e, Nat.add_mul, ← hsplit]
      simp only [Nat.mul_comm, Nat.mul_left_comm, Nat.mul_assoc]
      omega
    have h4 : b * 2 ^ s < 18446744073709551616 := by
      rw [← hsplit, Nat.mul_comm]
      exact Nat.mul_lt_mul_of_pos_left hb1 hp
    rw [Nat.add_mul, e2, Nat.add_mul_mod_self_left, Nat.mod_eq_of_lt h4, Nat.add_mul, Nat.mul_right_comm]
    omega
end Go.Proofs.YtcjpecdnenemaaaGreatDoor
