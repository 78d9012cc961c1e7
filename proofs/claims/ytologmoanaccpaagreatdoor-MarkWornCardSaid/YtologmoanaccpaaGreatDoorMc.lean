/-
  mark: sets of owners as bits: just, has
-/
import Derived.Test.YtologmoanaccpaaGreatDoorMb
import Derived.Laws.BitsLemmas
import Derived.Lib.EndianBits
namespace Go.Proofs.YtologmoanaccpaaGreatDoor
set_option linter.all false
open Go.RowKit

theorem pow_lt64 {n : Nat} (hn : n ≤ 60) : (2 : Int) ^ n < 18446744073709551616 ∧ 0 < (2 : Int) ^ n := by
  have h1 : (2 : Nat) ^ n ≤ 2 ^ 60 := Nat.pow_le_pow_right (by omega) hn
  have h2 : 0 < (2 : Nat) ^ n := Nat.two_pow_pos n
  have e : ((2 ^ n : Nat) : Int) = (2 : Int) ^ n := by push_cast; rfl
  have h3 : ((2 ^ n : Nat) : Int) ≤ ((2 ^ 60 : Nat) : Int) := by exact_mod_cast h1
  have h4 : (0 : Int) < ((2 ^ n : Nat) : Int) := by exact_mod_cast h2
  rw [e] at h3 h4
  exact ⟨by have : (((2 ^ 60 : Nat) : Int)) < 18446744073709551616 := by decide
            omega, h4⟩
theorem just_any (n : Nat) (hn : n ≤ 60) (w : World) : Calls Tryz.prog 108 #[.int .i64 (n : Int)] w fun e w' => e = .returned (.int .u64 ((2 : Int) ^ n)) ∧ w = w' := by
  obtain ⟨p1, p2⟩ := pow_lt64 hn
  have hw := Lib.hid (u64_wrap_id ((2 : Int) ^ n) (by omega) p1)
  clear p1 p2
  go_enter Tryz.func108, Tryz.ntmps108
  go_wp2
  go_ret
  exact ⟨ret_int hw.out, rfl⟩
theorem and_two (m n : Nat) : m &&& 2 ^ n = if m.testBit n = true then 2 ^ n else 0 := by
  apply Nat.eq_of_testBit_eq
  intro i
  rw [Nat.testBit_and, Nat.testBit_two_pow]
  by_cases hi : n = i
  · subst hi
    cases h : m.testBit n
    · simp
    · simp [Nat.testBit_two_pow]
  · cases h : m.testBit n
    · simp [hi]
    · simp [hi, Nat.testBit_two_pow]
theorem and_pow {m n : Nat} (hm : m < 2 ^ 64) (hn : n ≤ 60) : (bits BinOp.and IntKind.u64 (m : Int) ((2 : Int) ^ n) != 0) = m.testBit n := by
  have e : ((2 ^ n : Nat) : Int) = (2 : Int) ^ n := by push_cast; rfl
  have h1 : (2 : Nat) ^ n < 2 ^ 64 := Nat.pow_lt_pow_right (by omega) (by omega)
  rw [← e, bits_and_u64_nat m (2 ^ n) (by omega) (by omega)]
  rw [and_two]
  have h2 := Nat.two_pow_pos n
  cases h : m.testBit n
  · simp
  · rw [if_pos rfl, bne_iff_ne]
    intro h3
    omega
theorem has_any (m n : Nat) (hm : m < 2 ^ 64) (hn : 1 ≤ n) (h40 : n ≤ 40) (w : World) : Calls Tryz.prog 92 #[.int .u64 (m : Int), .int .i64 (n : Int)] w fun e w' => e = .returned (.bool (m.testBit n)) ∧ w = w' := by
  have h1 : inB (n : Int) 1 40 = true := inB_iff.2 (by omega)
  have ha := Lib.hid (and_pow hm (show n ≤ 60 by omega))
  clear hm
  go_enter Tryz.func92, Tryz.ntmps92
  go_wp2_with fail
  refine (isOwner_any _ _).mono ?_
  rintro e w1 ⟨rfl, rfl⟩
  rw [h1]
  go_wp2_with fail
  refine (just_any n (by omega) _).mono ?_
  rintro e w1 ⟨rfl, rfl⟩
  go_wp2
  go_ret
  exact ⟨ret_bool ha.out, rfl⟩
theorem has_no (m : Int) (n : Int) (hn : inB n 1 40 = false) (w : World) : Calls Tryz.prog 92 #[.int .u64 m, .int .i64 n] w fun e w' => e = .returned (.bool false) ∧ w = w' := by
  have hn := Lib.hid hn
  go_enter Tryz.func92, Tryz.ntmps92
  go_wp2_with fail
  refine (isOwner_any _ _).mono ?_
  rintro e w1 ⟨rfl, rfl⟩
  rw [hn.out]
  go_wp2
  go_ret
  exact ⟨rfl, rfl⟩
end Go.Proofs.YtologmoanaccpaaGreatDoor
