/- the reference's Misses and Doubles -/
import Derived.Test.YtjaicilnlgjdcaaTl
import Derived.Test.YtjaicilnlgjdcaaTe
namespace Go.Proofs.Ytjaicilnlgjdcaa
set_option linter.all false
open Go.RowKit

theorem ret_ib {a b : Int} {p q : Bool} (h : a = b) (k : p = q) : Ending.returned (.tuple #[.int .i64 a, .bool p]) = Ending.returned (.tuple #[.int .i64 b, .bool q]) := by rw [h, k]

set_option maxRecDepth 100000 in
theorem rmisses_any (n c : Int) (w : World) :
    Calls Try.prog 41 #[.int .i64 n, .int .i64 c] w fun e w' => e = .returned (.tuple #[.int .i64 (misI n c), .bool (misB n c)]) ∧ Kept w w' := by
  obtain ⟨cc, hcc⟩ : ∃ cc, inB c 0 200000 = cc := ⟨_, rfl⟩
  have HCC := Lib.hid hcc
  clear hcc
  by_cases h1 : n < 1
  · have h3 : (n < 1) := h1
    have HS : RowKit.Hid (misI n c = 0 ∧ misB n c = false) := Lib.hid (by
      have h : askOk n c = false := by rw [Bool.eq_false_iff, Ne, askOk_iff]; omega
      simp [misI, misB, lrI, lrB, h])
    go_enter Try.func41, Try.ntmps41
    go_wp2_with (go_at_call 64; refine (count_any c _).mono ?_; rintro e w1 ⟨rfl, hw1⟩; obtain rfl : w = w1 := hw1.symm; rw [HCC.out])
    go_ret2
    exact ⟨ret_ib HS.out.1.symm HS.out.2.symm, Kept.refl _⟩
  · by_cases h2 : 100000 < n
    · have HS : RowKit.Hid (misI n c = 0 ∧ misB n c = false) := Lib.hid (by
        have h : askOk n c = false := by rw [Bool.eq_false_iff, Ne, askOk_iff]; omega
        simp [misI, misB, lrI, lrB, h])
      go_enter Try.func41, Try.ntmps41
      go_wp2_with (go_at_call 64; refine (count_any c _).mono ?_; rintro e w1 ⟨rfl, hw1⟩; obtain rfl : w = w1 := hw1.symm; rw [HCC.out])
      go_ret2
      exact ⟨ret_ib HS.out.1.symm HS.out.2.symm, Kept.refl _⟩
    · cases cc
      · have hc := inB_not.1 HCC.out
        have HC3 := Lib.hid hc
        clear hc
        have HS : RowKit.Hid (misI n c = 0 ∧ misB n c = false) := Lib.hid (by
          have h : askOk n c = false := by rw [Bool.eq_false_iff, Ne, askOk_iff]; have := HC3.out; omega
          simp [misI, misB, lrI, lrB, h])
        go_enter Try.func41, Try.ntmps41
        go_wp2_with (go_at_call 64; refine (count_any c _).mono ?_; rintro e w1 ⟨rfl, hw1⟩; obtain rfl : w = w1 := hw1.symm; rw [HCC.out])
        go_ret2
        exact ⟨ret_ib HS.out.1.symm HS.out.2.symm, Kept.refl _⟩
      · have hc := inB_iff.1 HCC.out
        have hok : askOk n c = true := askOk_iff.2 ⟨⟨by omega, by omega⟩, hc⟩
        have HOK := Lib.hid hok
        have hn0 : 0 ≤ n := by omega
        have hn1 : n ≤ 100000 := by omega
        clear hc hok
        go_enter Try.func41, Try.ntmps41
        go_wp2_with (go_at_call 64; refine (count_any c _).mono ?_; rintro e w1 ⟨rfl, hw1⟩; obtain rfl : w = w1 := hw1.symm; rw [HCC.out])
        go_loopw [6] (fun i w1 => ∃ k : Nat, k ≤ 501 ∧ i = .int .i64 k ∧ Kept w w1 ∧ (∀ j : Nat, j < k → (fun r : Nat => decide (loI r n ≤ c)) j = false)) (fun i _ => 501 - (intOf i).toNat)
        case atStart => exact ⟨0, by omega, by first | rfl | go_num, by first | exact Kept.refl _, fun j hj => absurd hj (Nat.not_lt_zero _)⟩
        case round =>
          obtain ⟨k, hk, rfl, hkw, hf⟩ := hrel
          have HF := Lib.hid hf
          clear hf
          by_cases hlt : k < 501
          · have hk5 : (k : Int) ≤ 500 := by omega
            obtain ⟨x, hx⟩ : ∃ x, x = loI k n := ⟨_, rfl⟩
            have HC : RowKit.Hid (∀ W, Calls Try.prog 65 #[.agg #[.int .i64 k, .int .i64 0], .int .i64 n] W fun e w' => e = .returned (.int .i64 x) ∧ Kept W w') := Lib.hid (fun W => by rw [hx]; exact low_any k 0 n hn0 hn1 (by omega) (by omega) W)
            by_cases hp : x ≤ c
            · have HS : RowKit.Hid (misI n c = (k : Int) ∧ misB n c = true) := Lib.hid (by
                have e : missN n c = k := firstN_eq (p := (fun r : Nat => decide (loI r n ≤ c))) (by omega) HF.out (fun _ => by simp only [decide_eq_true_eq]; rw [← hx]; exact hp)
                simp [misI, misB, lrI, lrB, e, HOK.out, hlt])
              clear hx
              go_wp2_with (go_at_call 65; refine (HC.out _).mono ?_; rintro e w2 ⟨rfl, hk2⟩)
              go_ret2
              exact ⟨ret_ib HS.out.1.symm HS.out.2.symm, hkw.trans hk2⟩
            · have HN : RowKit.Hid (∀ j : Nat, j < k + 1 → (fun r : Nat => decide (loI r n ≤ c)) j = false) := Lib.hid (fun j hj => by
                rcases Nat.lt_or_eq_of_le (Nat.le_of_lt_succ hj) with h | h
                · exact HF.out j h
                · subst h; simp only [decide_eq_false_iff_not]; rw [← hx]; exact hp)
              clear hx
              go_wp2_with (go_at_call 65; refine (HC.out _).mono ?_; rintro e w2 ⟨rfl, hk2⟩)
              go_roundw
              case rel => exact ⟨k + 1, by omega, by go_num, hkw.trans hk2, HN.out⟩
              case measure => simp [intOf]; omega
          · obtain rfl : k = 501 := by omega
            have HS : RowKit.Hid (misI n c = 0 ∧ misB n c = false) := Lib.hid (by
              have e : missN n c = 501 := firstN_eq (p := (fun r : Nat => decide (loI r n ≤ c))) (by omega) HF.out (fun h => by omega)
              simp [misI, misB, lrI, lrB, e])
            go_wp2
            go_ret2
            exact ⟨ret_ib HS.out.1.symm HS.out.2.symm, hkw⟩

set_option maxRecDepth 100000 in
theorem rdoubles_any (n c : Int) (w : World) :
    Calls Try.prog 43 #[.int .i64 n, .int .i64 c] w fun e w' => e = .returned (.tuple #[.int .i64 (douI n c), .bool (douB n c)]) ∧ Kept w w' := by
  obtain ⟨cc, hcc⟩ : ∃ cc, inB c 0 200000 = cc := ⟨_, rfl⟩
  have HCC := Lib.hid hcc
  clear hcc
  by_cases h1 : n < 1
  · have h3 : (n < 1) := h1
    have HS : RowKit.Hid (douI n c = 0 ∧ douB n c = false) := Lib.hid (by
      have h : askOk n c = false := by rw [Bool.eq_false_iff, Ne, askOk_iff]; omega
      simp [douI, douB, lrI, lrB, h])
    go_enter Try.func43, Try.ntmps43
    go_wp2_with (go_at_call 64; refine (count_any c _).mono ?_; rintro e w1 ⟨rfl, hw1⟩; obtain rfl : w = w1 := hw1.symm; rw [HCC.out])
    go_ret2
    exact ⟨ret_ib HS.out.1.symm HS.out.2.symm, Kept.refl _⟩
  · by_cases h2 : 100000 < n
    · have HS : RowKit.Hid (douI n c = 0 ∧ douB n c = false) := Lib.hid (by
        have h : askOk n c = false := by rw [Bool.eq_false_iff, Ne, askOk_iff]; omega
        simp [douI, douB, lrI, lrB, h])
      go_enter Try.func43, Try.ntmps43
      go_wp2_with (go_at_call 64; refine (count_any c _).mono ?_; rintro e w1 ⟨rfl, hw1⟩; obtain rfl : w = w1 := hw1.symm; rw [HCC.out])
      go_ret2
      exact ⟨ret_ib HS.out.1.symm HS.out.2.symm, Kept.refl _⟩
    · cases cc
      · have hc := inB_not.1 HCC.out
        have HC3 := Lib.hid hc
        clear hc
        have HS : RowKit.Hid (douI n c = 0 ∧ douB n c = false) := Lib.hid (by
          have h : askOk n c = false := by rw [Bool.eq_false_iff, Ne, askOk_iff]; have := HC3.out; omega
          simp [douI, douB, lrI, lrB, h])
        go_enter Try.func43, Try.ntmps43
        go_wp2_with (go_at_call 64; refine (count_any c _).mono ?_; rintro e w1 ⟨rfl, hw1⟩; obtain rfl : w = w1 := hw1.symm; rw [HCC.out])
        go_ret2
        exact ⟨ret_ib HS.out.1.symm HS.out.2.symm, Kept.refl _⟩
      · have hc := inB_iff.1 HCC.out
        have hok : askOk n c = true := askOk_iff.2 ⟨⟨by omega, by omega⟩, hc⟩
        have HOK := Lib.hid hok
        have hn0 : 0 ≤ n := by omega
        have hn1 : n ≤ 100000 := by omega
        clear hc hok
        go_enter Try.func43, Try.ntmps43
        go_wp2_with (go_at_call 64; refine (count_any c _).mono ?_; rintro e w1 ⟨rfl, hw1⟩; obtain rfl : w = w1 := hw1.symm; rw [HCC.out])
        go_loopw [6] (fun i w1 => ∃ k : Nat, k ≤ 501 ∧ i = .int .i64 k ∧ Kept w w1 ∧ (∀ j : Nat, j < k → (fun r : Nat => decide (c ≤ hiI r n)) j = false)) (fun i _ => 501 - (intOf i).toNat)
        case atStart => exact ⟨0, by omega, by first | rfl | go_num, by first | exact Kept.refl _, fun j hj => absurd hj (Nat.not_lt_zero _)⟩
        case round =>
          obtain ⟨k, hk, rfl, hkw, hf⟩ := hrel
          have HF := Lib.hid hf
          clear hf
          by_cases hlt : k < 501
          · have hk5 : (k : Int) ≤ 500 := by omega
            obtain ⟨x, hx⟩ : ∃ x, x = hiI k n := ⟨_, rfl⟩
            have HC : RowKit.Hid (∀ W, Calls Try.prog 66 #[.agg #[.int .i64 0, .int .i64 k], .int .i64 n] W fun e w' => e = .returned (.int .i64 x) ∧ Kept W w') := Lib.hid (fun W => by rw [hx]; exact high_any 0 k n hn0 hn1 (by omega) (by omega) W)
            by_cases hp : c ≤ x
            · have HS : RowKit.Hid (douI n c = (k : Int) ∧ douB n c = true) := Lib.hid (by
                have e : doubN n c = k := firstN_eq (p := (fun r : Nat => decide (c ≤ hiI r n))) (by omega) HF.out (fun _ => by simp only [decide_eq_true_eq]; rw [← hx]; exact hp)
                simp [douI, douB, lrI, lrB, e, HOK.out, hlt])
              clear hx
              go_wp2_with (go_at_call 66; refine (HC.out _).mono ?_; rintro e w2 ⟨rfl, hk2⟩)
              go_ret2
              exact ⟨ret_ib HS.out.1.symm HS.out.2.symm, hkw.trans hk2⟩
            · have HN : RowKit.Hid (∀ j : Nat, j < k + 1 → (fun r : Nat => decide (c ≤ hiI r n)) j = false) := Lib.hid (fun j hj => by
                rcases Nat.lt_or_eq_of_le (Nat.le_of_lt_succ hj) with h | h
                · exact HF.out j h
                · subst h; simp only [decide_eq_false_iff_not]; rw [← hx]; exact hp)
              clear hx
              go_wp2_with (go_at_call 66; refine (HC.out _).mono ?_; rintro e w2 ⟨rfl, hk2⟩)
              go_roundw
              case rel => exact ⟨k + 1, by omega, by go_num, hkw.trans hk2, HN.out⟩
              case measure => simp [intOf]; omega
          · obtain rfl : k = 501 := by omega
            have HS : RowKit.Hid (douI n c = 0 ∧ douB n c = false) := Lib.hid (by
              have e : doubN n c = 501 := firstN_eq (p := (fun r : Nat => decide (c ≤ hiI r n))) (by omega) HF.out (fun h => by omega)
              simp [douI, douB, lrI, lrB, e])
            go_wp2
            go_ret2
            exact ⟨ret_ib HS.out.1.symm HS.out.2.symm, hkw⟩
end Go.Proofs.Ytjaicilnlgjdcaa
