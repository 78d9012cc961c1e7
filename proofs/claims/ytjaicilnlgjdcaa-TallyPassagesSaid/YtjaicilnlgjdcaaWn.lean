/- TallyPassages -/
import Derived.Test.YtjaicilnlgjdcaaWm
import Derived.Test.YtjaicilnlgjdcaaUl
namespace Go.Proofs.Ytjaicilnlgjdcaa
set_option linter.all false
open Go.RowKit Go.Shelf

set_option maxRecDepth 100000 in
set_option maxHeartbeats 4000000 in
theorem passagesLaw_any (A : Option Addr) (n1 c1 : Nat) (rs : List Rt) (B : Option Addr) (n c : Nat) (cs : List Ct) (w : World) (hR : SliK 2 rtCells w A n1 c1 rs) (hC : SliK 5 ctCells w B n c cs) :
    Calls Try.prog 5 #[.slice A n1 c1, .slice B n c] w fun e w' => e = .returned (.bool true) ∧ Kept w w' := by
  have HR := Lib.hid hR
  have HC := Lib.hid hC
  have hnc := hC.2.1
  have hcm := hC.2.2.1
  have hnc1 := hR.2.1
  have hcm1 := hR.2.2.1
  clear hR hC
  by_cases h1 : 250 < n1
  · go_enter Try.func5, Try.ntmps5
    go_wp2_with fail
    refine (counted_any _).mono ?_
    rintro e w1 ⟨rfl, hk⟩
    go_wp2
    go_ret
    exact ⟨rfl, hk⟩
  by_cases h2 : 250 < n
  · go_enter Try.func5, Try.ntmps5
    go_wp2_with fail
    refine (counted_any _).mono ?_
    rintro e w1 ⟨rfl, hk⟩
    go_wp2
    go_ret
    exact ⟨rfl, hk⟩
  have H37 : RowKit.Hid (∀ W, Kept w W → Calls Try.prog 37 #[.slice A n1 c1, .slice B n c] W (PassOut W rs cs)) := Lib.hid (fun W hW => passage_any A n1 c1 rs B n c cs W (HR.out.kept hW) (HC.out.kept hW) (by omega))
  have H38 : RowKit.Hid (∀ W, Kept w W → Calls Try.prog 38 #[.slice A n1 c1, .slice B n c] W (PassOut W rs cs)) := Lib.hid (fun W hW => rpassage_any A n1 c1 rs B n c cs W (HR.out.kept hW) (HC.out.kept hW) (by omega))
  by_cases h3 : 40 < n
  · by_cases h4 : n ≤ 200
    · go_enter Try.func5, Try.ntmps5
      go_wp2_with fail
      refine (counted_any _).mono ?_
      rintro e w1 ⟨rfl, hk⟩
      go_wp2
      go_ret
      exact ⟨rfl, hk⟩
    · go_enter Try.func5, Try.ntmps5
      go_wp2_with fail
      refine (H37.out _ (Kept.refl _)).mono ?_
      rintro e w1 ⟨⟨xa, xb, xs⟩, ids, er, A1, n2, c2, rfl, hi1, hp1, hk1⟩
      obtain ⟨W1, hW1⟩ : ∃ W1, W1 = w1.alloc (.cells #[.int .i64 xa, .int .i64 xb, .bool xs] 34) := ⟨_, rfl⟩
      have k1 : Kept w1 W1 := by rw [hW1]; exact (Kept.refl _).alloc _
      have R1 : RowKit.Hid (RowC W1 w1.heap.size [.int .i64 xa, .int .i64 xb, .bool xs]) := Lib.hid (by rw [hW1]; exact RowC.new w1 [.int .i64 xa, .int .i64 xb, .bool xs] 34)
      have K1 := Lib.hid (hk1.trans k1)
      have I1 := Lib.hid (hi1.kept k1)
      have P1 := Lib.hid hp1
      have HW1 := Lib.hid hW1
      clear hk1 k1 hi1 hp1 hW1
      go_upto_region 4 with (fail)
      rw [← HW1.out]
      go_wp2_with fail
      refine (H38.out _ K1.out).mono ?_
      rintro e w2 ⟨⟨ya, yb, ys⟩, ids2, er2, A2, n3, c3, rfl, hi2, hp2, hk2⟩
      obtain ⟨hxy, rfl, rfl⟩ := pass_unique P1.out hp2
      injection hxy with e1 e2 e3
      subst e1 e2 e3
      obtain ⟨W2, hW2⟩ : ∃ W2, W2 = w2.alloc (.cells #[.int .i64 xa, .int .i64 xb, .bool xs] 34) := ⟨_, rfl⟩
      have k2 : Kept w2 W2 := by rw [hW2]; exact (Kept.refl _).alloc _
      have R2 : RowKit.Hid (RowC W2 w2.heap.size [.int .i64 xa, .int .i64 xb, .bool xs]) := Lib.hid (by rw [hW2]; exact RowC.new w2 [.int .i64 xa, .int .i64 xb, .bool xs] 34)
      replace K1 := Lib.hid (K1.out.trans (hk2.trans k2))
      replace I1 := Lib.hid (I1.out.kept (hk2.trans k2))
      replace R1 := Lib.hid (R1.out.kept (hk2.trans k2))
      have I2 := Lib.hid (hi2.kept k2)
      have HW2 := Lib.hid hW2
      clear hk2 k2 hi2 hp2 hW2 P1 H37 H38
      go_upto_region 5 with (fail)
      rw [← HW2.out]
      go_wp2_with fail
      refine (counted_any _).mono ?_
      rintro e w3 ⟨rfl, hk3⟩
      replace K1 := Lib.hid (K1.out.trans hk3)
      replace I1 := Lib.hid (I1.out.kept hk3)
      replace I2 := Lib.hid (I2.out.kept hk3)
      replace R1 := Lib.hid (R1.out.kept hk3)
      replace R2 := Lib.hid (R2.out.kept hk3)
      clear hk3
      have x0 := (R1.out 0 _ rfl).1
      have x1 := (R1.out 1 _ rfl).1
      have x2 := (R1.out 2 _ rfl).1
      have y0 := (R2.out 0 _ rfl).1
      have y1 := (R2.out 1 _ rfl).1
      have y2 := (R2.out 2 _ rfl).1
      have H39 : RowKit.Hid (Calls Try.prog 39 #[.slice A1 n2 c2, .slice A2 n3 c3] w3 fun e w' => e = .returned (.bool true) ∧ Kept w3 w') := Lib.hid (by
        have := sameInts_any A1 n2 c2 ids A2 n3 c3 ids w3 I1.out I2.out
        rwa [show sameB ids ids = true by simp [sameB]] at this)
      go_wp2_with fail
      refine H39.out.mono ?_
      rintro e w4 ⟨rfl, hk4⟩
      go_wp2
      go_ret
      exact ⟨by simp, K1.out.trans hk4⟩
  · go_enter Try.func5, Try.ntmps5
    go_wp2_with fail
    refine (H37.out _ (Kept.refl _)).mono ?_
    rintro e w1 ⟨⟨xa, xb, xs⟩, ids, er, A1, n2, c2, rfl, hi1, hp1, hk1⟩
    obtain ⟨W1, hW1⟩ : ∃ W1, W1 = w1.alloc (.cells #[.int .i64 xa, .int .i64 xb, .bool xs] 34) := ⟨_, rfl⟩
    have k1 : Kept w1 W1 := by rw [hW1]; exact (Kept.refl _).alloc _
    have R1 : RowKit.Hid (RowC W1 w1.heap.size [.int .i64 xa, .int .i64 xb, .bool xs]) := Lib.hid (by rw [hW1]; exact RowC.new w1 [.int .i64 xa, .int .i64 xb, .bool xs] 34)
    have K1 := Lib.hid (hk1.trans k1)
    have I1 := Lib.hid (hi1.kept k1)
    have P1 := Lib.hid hp1
    have HW1 := Lib.hid hW1
    clear hk1 k1 hi1 hp1 hW1
    go_upto_region 4 with (fail)
    rw [← HW1.out]
    go_wp2_with fail
    refine (H38.out _ K1.out).mono ?_
    rintro e w2 ⟨⟨ya, yb, ys⟩, ids2, er2, A2, n3, c3, rfl, hi2, hp2, hk2⟩
    obtain ⟨hxy, rfl, rfl⟩ := pass_unique P1.out hp2
    injection hxy with e1 e2 e3
    subst e1 e2 e3
    obtain ⟨W2, hW2⟩ : ∃ W2, W2 = w2.alloc (.cells #[.int .i64 xa, .int .i64 xb, .bool xs] 34) := ⟨_, rfl⟩
    have k2 : Kept w2 W2 := by rw [hW2]; exact (Kept.refl _).alloc _
    have R2 : RowKit.Hid (RowC W2 w2.heap.size [.int .i64 xa, .int .i64 xb, .bool xs]) := Lib.hid (by rw [hW2]; exact RowC.new w2 [.int .i64 xa, .int .i64 xb, .bool xs] 34)
    replace K1 := Lib.hid (K1.out.trans (hk2.trans k2))
    replace I1 := Lib.hid (I1.out.kept (hk2.trans k2))
    replace R1 := Lib.hid (R1.out.kept (hk2.trans k2))
    have I2 := Lib.hid (hi2.kept k2)
    have HW2 := Lib.hid hW2
    clear hk2 k2 hi2 hp2 hW2 P1 H37 H38
    go_upto_region 5 with (fail)
    rw [← HW2.out]
    go_wp2_with fail
    refine (counted_any _).mono ?_
    rintro e w3 ⟨rfl, hk3⟩
    replace K1 := Lib.hid (K1.out.trans hk3)
    replace I1 := Lib.hid (I1.out.kept hk3)
    replace I2 := Lib.hid (I2.out.kept hk3)
    replace R1 := Lib.hid (R1.out.kept hk3)
    replace R2 := Lib.hid (R2.out.kept hk3)
    clear hk3
    have x0 := (R1.out 0 _ rfl).1
    have x1 := (R1.out 1 _ rfl).1
    have x2 := (R1.out 2 _ rfl).1
    have y0 := (R2.out 0 _ rfl).1
    have y1 := (R2.out 1 _ rfl).1
    have y2 := (R2.out 2 _ rfl).1
    have H39 : RowKit.Hid (Calls Try.prog 39 #[.slice A1 n2 c2, .slice A2 n3 c3] w3 fun e w' => e = .returned (.bool true) ∧ Kept w3 w') := Lib.hid (by
      have := sameInts_any A1 n2 c2 ids A2 n3 c3 ids w3 I1.out I2.out
      rwa [show sameB ids ids = true by simp [sameB]] at this)
    go_wp2_with fail
    refine H39.out.mono ?_
    rintro e w4 ⟨rfl, hk4⟩
    go_wp2
    go_ret
    exact ⟨by simp, K1.out.trans hk4⟩
end Go.Proofs.Ytjaicilnlgjdcaa
