/- fits, isCount, isRecount, CheckRate, CheckCount -/
import Derived.Test.YtjaicilnlgjdcaaTe
namespace Go.Proofs.Ytjaicilnlgjdcaa
set_option linter.all false
open Go.RowKit

theorem valid_err (b : Bool) (w : World) : Calls Try.prog 69 #[.bool b] w fun e w' => e = .returned (.int .i64 (errI b)) ∧ w' = w :=
  (valid_any b w).mono fun _ _ ⟨he, hw⟩ => ⟨by rw [he]; rfl, hw⟩

theorem isCount_any (i dy s n x : Int) (w : World) :
    Calls Try.prog 70 #[.agg #[.int .i64 i, .int .i64 dy, .int .i64 s, .int .i64 n, .int .i64 x]] w fun e w' => e = .returned (.bool (countB i dy s n x)) ∧ Kept w w' := by
  obtain ⟨W0, hW0⟩ : ∃ W0, W0 = w.alloc (.cells #[.int .i64 i, .int .i64 dy, .int .i64 s, .int .i64 n, .int .i64 x] 25) := ⟨_, rfl⟩
  have k0 : Kept w W0 := by rw [hW0]; exact ((Kept.refl _).alloc _)
  have c00 : W0.cell? ⟨w.heap.size, 0, none⟩ = some (.int .i64 i) := by rw [hW0]; exact cellNew (by simp) rfl
  have c01 : W0.cell? ⟨w.heap.size, 1, none⟩ = some (.int .i64 dy) := by rw [hW0]; exact cellNew (by simp) rfl
  have c02 : W0.cell? ⟨w.heap.size, 2, none⟩ = some (.int .i64 s) := by rw [hW0]; exact cellNew (by simp) rfl
  have c03 : W0.cell? ⟨w.heap.size, 3, none⟩ = some (.int .i64 n) := by rw [hW0]; exact cellNew (by simp) rfl
  have c04 : W0.cell? ⟨w.heap.size, 4, none⟩ = some (.int .i64 x) := by rw [hW0]; exact cellNew (by simp) rfl
  have BR : RowKit.Hid (∀ W, Kept W0 W → W.cell? ⟨w.heap.size, 0, none⟩ = some (.int .i64 i) ∧ W.cell? ⟨w.heap.size, 1, none⟩ = some (.int .i64 dy) ∧ W.cell? ⟨w.heap.size, 2, none⟩ = some (.int .i64 s) ∧ W.cell? ⟨w.heap.size, 3, none⟩ = some (.int .i64 n) ∧ W.cell? ⟨w.heap.size, 4, none⟩ = some (.int .i64 x)) := Lib.hid (fun W hW => ⟨(hW.cells _ _ (cell_lt c00)).trans c00, (hW.cells _ _ (cell_lt c01)).trans c01, (hW.cells _ _ (cell_lt c02)).trans c02, (hW.cells _ _ (cell_lt c03)).trans c03, (hW.cells _ _ (cell_lt c04)).trans c04⟩)
  have Z0 : W0.heap.size = w.heap.size + 1 := by rw [hW0]; simp
  have ZZ := Lib.hid Z0
  have HW := Lib.hid hW0
  have K0 := Lib.hid k0
  clear hW0 k0 Z0
  have kk := Kept.refl W0
  have b0 := cell_lt c00
  rcases h1 : entryB i s [dy] with _ | _
  · go_enter Try.func70, Try.ntmps70
    go_upto_region 1 with (fail)
    rw [← HW.out]
    go_wp2_with (first
        | (go_at_call 99; refine (isEntry_any i s _ 1 _ [dy] _ rfl (by omega) (IntRow.one (cellNew (by simp) rfl))).mono ?_; rintro e w1 ⟨rfl, hk⟩; replace kk := (by first | with_reducible exact kk.trans hk | with_reducible exact (kk.alloc _).trans hk | with_reducible exact kk.drew.trans hk | with_reducible exact (kk.drew.alloc _).trans hk | with_reducible exact (kk.alloc _).drew.trans hk | with_reducible exact ((kk.alloc _).alloc _).trans hk | with_reducible exact ((kk.drew.alloc _).alloc _).trans hk | fail); obtain ⟨c00, c01, c02, c03, c04⟩ := BR.out _ kk; have b0 := cell_lt c00)
        | (go_at_call 60; refine (isTrue_any n _).mono ?_; rintro e w1 ⟨rfl, hk⟩; replace kk := (by first | with_reducible exact kk.trans hk | with_reducible exact (kk.alloc _).trans hk | with_reducible exact kk.drew.trans hk | with_reducible exact (kk.drew.alloc _).trans hk | with_reducible exact (kk.alloc _).drew.trans hk | with_reducible exact ((kk.alloc _).alloc _).trans hk | with_reducible exact ((kk.drew.alloc _).alloc _).trans hk | fail); obtain ⟨c00, c01, c02, c03, c04⟩ := BR.out _ kk; have b0 := cell_lt c00)
        | (go_at_call 98; refine (within1 0 10000 _ _ x _ (cellNew (by simp) rfl)).mono ?_; rintro e w1 ⟨rfl, rfl⟩)
        | fail)
    go_ret
    exact ⟨ret_bool (by simp [countB, *]), K0.out.trans (by first | with_reducible exact kk | with_reducible exact kk.alloc _ | with_reducible exact kk.drew | with_reducible exact kk.drew.alloc _ | with_reducible exact (kk.alloc _).alloc _ | fail)⟩
  · skip
    rcases h2 : inB n 0 100000 with _ | _
    · go_enter Try.func70, Try.ntmps70
      go_upto_region 1 with (fail)
      rw [← HW.out]
      go_wp2_with (first
        | (go_at_call 99; refine (isEntry_any i s _ 1 _ [dy] _ rfl (by omega) (IntRow.one (cellNew (by simp) rfl))).mono ?_; rintro e w1 ⟨rfl, hk⟩; replace kk := (by first | with_reducible exact kk.trans hk | with_reducible exact (kk.alloc _).trans hk | with_reducible exact kk.drew.trans hk | with_reducible exact (kk.drew.alloc _).trans hk | with_reducible exact (kk.alloc _).drew.trans hk | with_reducible exact ((kk.alloc _).alloc _).trans hk | with_reducible exact ((kk.drew.alloc _).alloc _).trans hk | fail); obtain ⟨c00, c01, c02, c03, c04⟩ := BR.out _ kk; have b0 := cell_lt c00)
        | (go_at_call 60; refine (isTrue_any n _).mono ?_; rintro e w1 ⟨rfl, hk⟩; replace kk := (by first | with_reducible exact kk.trans hk | with_reducible exact (kk.alloc _).trans hk | with_reducible exact kk.drew.trans hk | with_reducible exact (kk.drew.alloc _).trans hk | with_reducible exact (kk.alloc _).drew.trans hk | with_reducible exact ((kk.alloc _).alloc _).trans hk | with_reducible exact ((kk.drew.alloc _).alloc _).trans hk | fail); obtain ⟨c00, c01, c02, c03, c04⟩ := BR.out _ kk; have b0 := cell_lt c00)
        | (go_at_call 98; refine (within1 0 10000 _ _ x _ (cellNew (by simp) rfl)).mono ?_; rintro e w1 ⟨rfl, rfl⟩)
        | fail)
      go_ret
      exact ⟨ret_bool (by simp [countB, *]), K0.out.trans (by first | with_reducible exact kk | with_reducible exact kk.alloc _ | with_reducible exact kk.drew | with_reducible exact kk.drew.alloc _ | with_reducible exact (kk.alloc _).alloc _ | fail)⟩
    · skip
      go_enter Try.func70, Try.ntmps70
      go_upto_region 1 with (fail)
      rw [← HW.out]
      go_wp2_with (first
        | (go_at_call 99; refine (isEntry_any i s _ 1 _ [dy] _ rfl (by omega) (IntRow.one (cellNew (by simp) rfl))).mono ?_; rintro e w1 ⟨rfl, hk⟩; replace kk := (by first | with_reducible exact kk.trans hk | with_reducible exact (kk.alloc _).trans hk | with_reducible exact kk.drew.trans hk | with_reducible exact (kk.drew.alloc _).trans hk | with_reducible exact (kk.alloc _).drew.trans hk | with_reducible exact ((kk.alloc _).alloc _).trans hk | with_reducible exact ((kk.drew.alloc _).alloc _).trans hk | fail); obtain ⟨c00, c01, c02, c03, c04⟩ := BR.out _ kk; have b0 := cell_lt c00)
        | (go_at_call 60; refine (isTrue_any n _).mono ?_; rintro e w1 ⟨rfl, hk⟩; replace kk := (by first | with_reducible exact kk.trans hk | with_reducible exact (kk.alloc _).trans hk | with_reducible exact kk.drew.trans hk | with_reducible exact (kk.drew.alloc _).trans hk | with_reducible exact (kk.alloc _).drew.trans hk | with_reducible exact ((kk.alloc _).alloc _).trans hk | with_reducible exact ((kk.drew.alloc _).alloc _).trans hk | fail); obtain ⟨c00, c01, c02, c03, c04⟩ := BR.out _ kk; have b0 := cell_lt c00)
        | (go_at_call 98; refine (within1 0 10000 _ _ x _ (cellNew (by simp) rfl)).mono ?_; rintro e w1 ⟨rfl, rfl⟩)
        | fail)
      go_ret
      exact ⟨ret_bool (by simp [countB, *]), K0.out.trans (by first | with_reducible exact kk | with_reducible exact kk.alloc _ | with_reducible exact kk.drew | with_reducible exact kk.drew.alloc _ | with_reducible exact (kk.alloc _).alloc _ | fail)⟩

theorem isRecount_any (i dy kn s t n : Int) (w : World) :
    Calls Try.prog 91 #[.agg #[.int .i64 i, .int .i64 dy, .int .i64 kn, .int .i64 s, .int .i64 t, .int .i64 n]] w fun e w' => e = .returned (.bool (recountB i dy kn s t n)) ∧ Kept w w' := by
  obtain ⟨W0, hW0⟩ : ∃ W0, W0 = w.alloc (.cells #[.int .i64 i, .int .i64 dy, .int .i64 kn, .int .i64 s, .int .i64 t, .int .i64 n] 76) := ⟨_, rfl⟩
  have k0 : Kept w W0 := by rw [hW0]; exact ((Kept.refl _).alloc _)
  have c00 : W0.cell? ⟨w.heap.size, 0, none⟩ = some (.int .i64 i) := by rw [hW0]; exact cellNew (by simp) rfl
  have c01 : W0.cell? ⟨w.heap.size, 1, none⟩ = some (.int .i64 dy) := by rw [hW0]; exact cellNew (by simp) rfl
  have c02 : W0.cell? ⟨w.heap.size, 2, none⟩ = some (.int .i64 kn) := by rw [hW0]; exact cellNew (by simp) rfl
  have c03 : W0.cell? ⟨w.heap.size, 3, none⟩ = some (.int .i64 s) := by rw [hW0]; exact cellNew (by simp) rfl
  have c04 : W0.cell? ⟨w.heap.size, 4, none⟩ = some (.int .i64 t) := by rw [hW0]; exact cellNew (by simp) rfl
  have c05 : W0.cell? ⟨w.heap.size, 5, none⟩ = some (.int .i64 n) := by rw [hW0]; exact cellNew (by simp) rfl
  have BR : RowKit.Hid (∀ W, Kept W0 W → W.cell? ⟨w.heap.size, 0, none⟩ = some (.int .i64 i) ∧ W.cell? ⟨w.heap.size, 1, none⟩ = some (.int .i64 dy) ∧ W.cell? ⟨w.heap.size, 2, none⟩ = some (.int .i64 kn) ∧ W.cell? ⟨w.heap.size, 3, none⟩ = some (.int .i64 s) ∧ W.cell? ⟨w.heap.size, 4, none⟩ = some (.int .i64 t) ∧ W.cell? ⟨w.heap.size, 5, none⟩ = some (.int .i64 n)) := Lib.hid (fun W hW => ⟨(hW.cells _ _ (cell_lt c00)).trans c00, (hW.cells _ _ (cell_lt c01)).trans c01, (hW.cells _ _ (cell_lt c02)).trans c02, (hW.cells _ _ (cell_lt c03)).trans c03, (hW.cells _ _ (cell_lt c04)).trans c04, (hW.cells _ _ (cell_lt c05)).trans c05⟩)
  have Z0 : W0.heap.size = w.heap.size + 1 := by rw [hW0]; simp
  have ZZ := Lib.hid Z0
  have HW := Lib.hid hW0
  have K0 := Lib.hid k0
  clear hW0 k0 Z0
  have kk := Kept.refl W0
  have b0 := cell_lt c00
  rcases h1 : entryB i s [dy, kn] with _ | _
  · go_enter Try.func91, Try.ntmps91
    go_upto_region 1 with (fail)
    rw [← HW.out]
    go_wp2_with (first
        | (go_at_call 99; refine (isEntry_any i s _ 2 _ [dy, kn] _ rfl (by omega) (IntRow.two (cellNew (by simp) rfl) (cellNew (by simp) rfl))).mono ?_; rintro e w1 ⟨rfl, hk⟩; replace kk := (by first | with_reducible exact kk.trans hk | with_reducible exact (kk.alloc _).trans hk | with_reducible exact kk.drew.trans hk | with_reducible exact (kk.drew.alloc _).trans hk | with_reducible exact (kk.alloc _).drew.trans hk | with_reducible exact ((kk.alloc _).alloc _).trans hk | with_reducible exact ((kk.drew.alloc _).alloc _).trans hk | fail); obtain ⟨c00, c01, c02, c03, c04, c05⟩ := BR.out _ kk; have b0 := cell_lt c00)
        | (go_at_call 60; refine (isTrue_any t _).mono ?_; rintro e w1 ⟨rfl, hk⟩; replace kk := (by first | with_reducible exact kk.trans hk | with_reducible exact (kk.alloc _).trans hk | with_reducible exact kk.drew.trans hk | with_reducible exact (kk.drew.alloc _).trans hk | with_reducible exact (kk.alloc _).drew.trans hk | with_reducible exact ((kk.alloc _).alloc _).trans hk | with_reducible exact ((kk.drew.alloc _).alloc _).trans hk | fail); obtain ⟨c00, c01, c02, c03, c04, c05⟩ := BR.out _ kk; have b0 := cell_lt c00)
        | (go_at_call 61; refine (isCounted_any n _).mono ?_; rintro e w1 ⟨rfl, hk⟩; replace kk := (by first | with_reducible exact kk.trans hk | with_reducible exact (kk.alloc _).trans hk | with_reducible exact kk.drew.trans hk | with_reducible exact (kk.drew.alloc _).trans hk | with_reducible exact (kk.alloc _).drew.trans hk | with_reducible exact ((kk.alloc _).alloc _).trans hk | with_reducible exact ((kk.drew.alloc _).alloc _).trans hk | fail); obtain ⟨c00, c01, c02, c03, c04, c05⟩ := BR.out _ kk; have b0 := cell_lt c00)
        | fail)
    go_ret
    exact ⟨ret_bool (by simp [recountB, *]), K0.out.trans (by first | with_reducible exact kk | with_reducible exact kk.alloc _ | with_reducible exact kk.drew | with_reducible exact kk.drew.alloc _ | with_reducible exact (kk.alloc _).alloc _ | fail)⟩
  · skip
    rcases h2 : inB t 0 100000 with _ | _
    · go_enter Try.func91, Try.ntmps91
      go_upto_region 1 with (fail)
      rw [← HW.out]
      go_wp2_with (first
        | (go_at_call 99; refine (isEntry_any i s _ 2 _ [dy, kn] _ rfl (by omega) (IntRow.two (cellNew (by simp) rfl) (cellNew (by simp) rfl))).mono ?_; rintro e w1 ⟨rfl, hk⟩; replace kk := (by first | with_reducible exact kk.trans hk | with_reducible exact (kk.alloc _).trans hk | with_reducible exact kk.drew.trans hk | with_reducible exact (kk.drew.alloc _).trans hk | with_reducible exact (kk.alloc _).drew.trans hk | with_reducible exact ((kk.alloc _).alloc _).trans hk | with_reducible exact ((kk.drew.alloc _).alloc _).trans hk | fail); obtain ⟨c00, c01, c02, c03, c04, c05⟩ := BR.out _ kk; have b0 := cell_lt c00)
        | (go_at_call 60; refine (isTrue_any t _).mono ?_; rintro e w1 ⟨rfl, hk⟩; replace kk := (by first | with_reducible exact kk.trans hk | with_reducible exact (kk.alloc _).trans hk | with_reducible exact kk.drew.trans hk | with_reducible exact (kk.drew.alloc _).trans hk | with_reducible exact (kk.alloc _).drew.trans hk | with_reducible exact ((kk.alloc _).alloc _).trans hk | with_reducible exact ((kk.drew.alloc _).alloc _).trans hk | fail); obtain ⟨c00, c01, c02, c03, c04, c05⟩ := BR.out _ kk; have b0 := cell_lt c00)
        | (go_at_call 61; refine (isCounted_any n _).mono ?_; rintro e w1 ⟨rfl, hk⟩; replace kk := (by first | with_reducible exact kk.trans hk | with_reducible exact (kk.alloc _).trans hk | with_reducible exact kk.drew.trans hk | with_reducible exact (kk.drew.alloc _).trans hk | with_reducible exact (kk.alloc _).drew.trans hk | with_reducible exact ((kk.alloc _).alloc _).trans hk | with_reducible exact ((kk.drew.alloc _).alloc _).trans hk | fail); obtain ⟨c00, c01, c02, c03, c04, c05⟩ := BR.out _ kk; have b0 := cell_lt c00)
        | fail)
      go_ret
      exact ⟨ret_bool (by simp [recountB, *]), K0.out.trans (by first | with_reducible exact kk | with_reducible exact kk.alloc _ | with_reducible exact kk.drew | with_reducible exact kk.drew.alloc _ | with_reducible exact (kk.alloc _).alloc _ | fail)⟩
    · skip
      rcases h3 : decide (0 < t) with _ | _
      · go_enter Try.func91, Try.ntmps91
        go_upto_region 1 with (fail)
        rw [← HW.out]
        go_wp2_with (first
        | (go_at_call 99; refine (isEntry_any i s _ 2 _ [dy, kn] _ rfl (by omega) (IntRow.two (cellNew (by simp) rfl) (cellNew (by simp) rfl))).mono ?_; rintro e w1 ⟨rfl, hk⟩; replace kk := (by first | with_reducible exact kk.trans hk | with_reducible exact (kk.alloc _).trans hk | with_reducible exact kk.drew.trans hk | with_reducible exact (kk.drew.alloc _).trans hk | with_reducible exact (kk.alloc _).drew.trans hk | with_reducible exact ((kk.alloc _).alloc _).trans hk | with_reducible exact ((kk.drew.alloc _).alloc _).trans hk | fail); obtain ⟨c00, c01, c02, c03, c04, c05⟩ := BR.out _ kk; have b0 := cell_lt c00)
        | (go_at_call 60; refine (isTrue_any t _).mono ?_; rintro e w1 ⟨rfl, hk⟩; replace kk := (by first | with_reducible exact kk.trans hk | with_reducible exact (kk.alloc _).trans hk | with_reducible exact kk.drew.trans hk | with_reducible exact (kk.drew.alloc _).trans hk | with_reducible exact (kk.alloc _).drew.trans hk | with_reducible exact ((kk.alloc _).alloc _).trans hk | with_reducible exact ((kk.drew.alloc _).alloc _).trans hk | fail); obtain ⟨c00, c01, c02, c03, c04, c05⟩ := BR.out _ kk; have b0 := cell_lt c00)
        | (go_at_call 61; refine (isCounted_any n _).mono ?_; rintro e w1 ⟨rfl, hk⟩; replace kk := (by first | with_reducible exact kk.trans hk | with_reducible exact (kk.alloc _).trans hk | with_reducible exact kk.drew.trans hk | with_reducible exact (kk.drew.alloc _).trans hk | with_reducible exact (kk.alloc _).drew.trans hk | with_reducible exact ((kk.alloc _).alloc _).trans hk | with_reducible exact ((kk.drew.alloc _).alloc _).trans hk | fail); obtain ⟨c00, c01, c02, c03, c04, c05⟩ := BR.out _ kk; have b0 := cell_lt c00)
        | fail)
        go_ret
        exact ⟨ret_bool (by simp [recountB, *]), K0.out.trans (by first | with_reducible exact kk | with_reducible exact kk.alloc _ | with_reducible exact kk.drew | with_reducible exact kk.drew.alloc _ | with_reducible exact (kk.alloc _).alloc _ | fail)⟩
      · skip
        go_enter Try.func91, Try.ntmps91
        go_upto_region 1 with (fail)
        rw [← HW.out]
        go_wp2_with (first
        | (go_at_call 99; refine (isEntry_any i s _ 2 _ [dy, kn] _ rfl (by omega) (IntRow.two (cellNew (by simp) rfl) (cellNew (by simp) rfl))).mono ?_; rintro e w1 ⟨rfl, hk⟩; replace kk := (by first | with_reducible exact kk.trans hk | with_reducible exact (kk.alloc _).trans hk | with_reducible exact kk.drew.trans hk | with_reducible exact (kk.drew.alloc _).trans hk | with_reducible exact (kk.alloc _).drew.trans hk | with_reducible exact ((kk.alloc _).alloc _).trans hk | with_reducible exact ((kk.drew.alloc _).alloc _).trans hk | fail); obtain ⟨c00, c01, c02, c03, c04, c05⟩ := BR.out _ kk; have b0 := cell_lt c00)
        | (go_at_call 60; refine (isTrue_any t _).mono ?_; rintro e w1 ⟨rfl, hk⟩; replace kk := (by first | with_reducible exact kk.trans hk | with_reducible exact (kk.alloc _).trans hk | with_reducible exact kk.drew.trans hk | with_reducible exact (kk.drew.alloc _).trans hk | with_reducible exact (kk.alloc _).drew.trans hk | with_reducible exact ((kk.alloc _).alloc _).trans hk | with_reducible exact ((kk.drew.alloc _).alloc _).trans hk | fail); obtain ⟨c00, c01, c02, c03, c04, c05⟩ := BR.out _ kk; have b0 := cell_lt c00)
        | (go_at_call 61; refine (isCounted_any n _).mono ?_; rintro e w1 ⟨rfl, hk⟩; replace kk := (by first | with_reducible exact kk.trans hk | with_reducible exact (kk.alloc _).trans hk | with_reducible exact kk.drew.trans hk | with_reducible exact (kk.drew.alloc _).trans hk | with_reducible exact (kk.alloc _).drew.trans hk | with_reducible exact ((kk.alloc _).alloc _).trans hk | with_reducible exact ((kk.drew.alloc _).alloc _).trans hk | fail); obtain ⟨c00, c01, c02, c03, c04, c05⟩ := BR.out _ kk; have b0 := cell_lt c00)
        | fail)
        go_ret
        exact ⟨ret_bool (by simp [recountB, *]), K0.out.trans (by first | with_reducible exact kk | with_reducible exact kk.alloc _ | with_reducible exact kk.drew | with_reducible exact kk.drew.alloc _ | with_reducible exact (kk.alloc _).alloc _ | fail)⟩

theorem checkRate_any (m d : Int) (w : World) :
    Calls Try.prog 20 #[.agg #[.int .i64 m, .int .i64 d]] w fun e w' => e = .returned (.int .i64 (errI (rateB m d))) ∧ Kept w w' := by
  obtain ⟨W0, hW0⟩ : ∃ W0, W0 = w.alloc (.cells #[.int .i64 m, .int .i64 d] 23) := ⟨_, rfl⟩
  have k0 : Kept w W0 := by rw [hW0]; exact ((Kept.refl _).alloc _)
  have c00 : W0.cell? ⟨w.heap.size, 0, none⟩ = some (.int .i64 m) := by rw [hW0]; exact cellNew (by simp) rfl
  have c01 : W0.cell? ⟨w.heap.size, 1, none⟩ = some (.int .i64 d) := by rw [hW0]; exact cellNew (by simp) rfl
  have BR : RowKit.Hid (∀ W, Kept W0 W → W.cell? ⟨w.heap.size, 0, none⟩ = some (.int .i64 m) ∧ W.cell? ⟨w.heap.size, 1, none⟩ = some (.int .i64 d)) := Lib.hid (fun W hW => ⟨(hW.cells _ _ (cell_lt c00)).trans c00, (hW.cells _ _ (cell_lt c01)).trans c01⟩)
  have Z0 : W0.heap.size = w.heap.size + 1 := by rw [hW0]; simp
  have ZZ := Lib.hid Z0
  have HW := Lib.hid hW0
  have K0 := Lib.hid k0
  clear hW0 k0 Z0
  have kk := Kept.refl W0
  have b0 := cell_lt c00
  go_enter Try.func20, Try.ntmps20
  go_upto_region 1 with (fail)
  rw [← HW.out]
  go_wp2_with (first
        | (go_at_call 59; refine (isRate_any _ _ _).mono ?_; rintro e w1 ⟨rfl, hk⟩; replace kk := (by first | with_reducible exact kk.trans hk | with_reducible exact (kk.alloc _).trans hk | with_reducible exact kk.drew.trans hk | with_reducible exact (kk.drew.alloc _).trans hk | with_reducible exact (kk.alloc _).drew.trans hk | with_reducible exact ((kk.alloc _).alloc _).trans hk | with_reducible exact ((kk.drew.alloc _).alloc _).trans hk | fail))
        | (go_at_call 69; refine (valid_err _ _).mono ?_; rintro e w1 ⟨rfl, rfl⟩)
        | fail)
  go_ret
  exact ⟨ret_int rfl, K0.out.trans (by first | with_reducible exact kk | with_reducible exact kk.alloc _ | with_reducible exact kk.drew | with_reducible exact kk.drew.alloc _ | with_reducible exact (kk.alloc _).alloc _ | fail)⟩

theorem checkCount_any (i dy s n x : Int) (w : World) :
    Calls Try.prog 22 #[.agg #[.int .i64 i, .int .i64 dy, .int .i64 s, .int .i64 n, .int .i64 x]] w fun e w' => e = .returned (.int .i64 (errI (countB i dy s n x))) ∧ Kept w w' := by
  obtain ⟨W0, hW0⟩ : ∃ W0, W0 = w.alloc (.cells #[.int .i64 i, .int .i64 dy, .int .i64 s, .int .i64 n, .int .i64 x] 25) := ⟨_, rfl⟩
  have k0 : Kept w W0 := by rw [hW0]; exact ((Kept.refl _).alloc _)
  have c00 : W0.cell? ⟨w.heap.size, 0, none⟩ = some (.int .i64 i) := by rw [hW0]; exact cellNew (by simp) rfl
  have c01 : W0.cell? ⟨w.heap.size, 1, none⟩ = some (.int .i64 dy) := by rw [hW0]; exact cellNew (by simp) rfl
  have c02 : W0.cell? ⟨w.heap.size, 2, none⟩ = some (.int .i64 s) := by rw [hW0]; exact cellNew (by simp) rfl
  have c03 : W0.cell? ⟨w.heap.size, 3, none⟩ = some (.int .i64 n) := by rw [hW0]; exact cellNew (by simp) rfl
  have c04 : W0.cell? ⟨w.heap.size, 4, none⟩ = some (.int .i64 x) := by rw [hW0]; exact cellNew (by simp) rfl
  have BR : RowKit.Hid (∀ W, Kept W0 W → W.cell? ⟨w.heap.size, 0, none⟩ = some (.int .i64 i) ∧ W.cell? ⟨w.heap.size, 1, none⟩ = some (.int .i64 dy) ∧ W.cell? ⟨w.heap.size, 2, none⟩ = some (.int .i64 s) ∧ W.cell? ⟨w.heap.size, 3, none⟩ = some (.int .i64 n) ∧ W.cell? ⟨w.heap.size, 4, none⟩ = some (.int .i64 x)) := Lib.hid (fun W hW => ⟨(hW.cells _ _ (cell_lt c00)).trans c00, (hW.cells _ _ (cell_lt c01)).trans c01, (hW.cells _ _ (cell_lt c02)).trans c02, (hW.cells _ _ (cell_lt c03)).trans c03, (hW.cells _ _ (cell_lt c04)).trans c04⟩)
  have Z0 : W0.heap.size = w.heap.size + 1 := by rw [hW0]; simp
  have ZZ := Lib.hid Z0
  have HW := Lib.hid hW0
  have K0 := Lib.hid k0
  clear hW0 k0 Z0
  have kk := Kept.refl W0
  have b0 := cell_lt c00
  go_enter Try.func22, Try.ntmps22
  go_upto_region 1 with (fail)
  rw [← HW.out]
  go_wp2_with (first
        | (go_at_call 70; refine (isCount_any _ _ _ _ _ _).mono ?_; rintro e w1 ⟨rfl, hk⟩; replace kk := (by first | with_reducible exact kk.trans hk | with_reducible exact (kk.alloc _).trans hk | with_reducible exact kk.drew.trans hk | with_reducible exact (kk.drew.alloc _).trans hk | with_reducible exact (kk.alloc _).drew.trans hk | with_reducible exact ((kk.alloc _).alloc _).trans hk | with_reducible exact ((kk.drew.alloc _).alloc _).trans hk | fail))
        | (go_at_call 69; refine (valid_err _ _).mono ?_; rintro e w1 ⟨rfl, rfl⟩)
        | fail)
  go_ret
  exact ⟨ret_int rfl, K0.out.trans (by first | with_reducible exact kk | with_reducible exact kk.alloc _ | with_reducible exact kk.drew | with_reducible exact kk.drew.alloc _ | with_reducible exact (kk.alloc _).alloc _ | fail)⟩

set_option maxHeartbeats 4000000 in
theorem fitsG_any (m d n c lw hw : Int) (hL : ∀ W, Calls Try.prog 67 #[.agg #[.int .i64 m, .int .i64 d], .int .i64 n] W fun e w' => e = .returned (.int .i64 lw) ∧ Kept W w')
    (hH : ∀ W, Calls Try.prog 68 #[.agg #[.int .i64 m, .int .i64 d], .int .i64 n] W fun e w' => e = .returned (.int .i64 hw) ∧ Kept W w') (w : World) :
    Calls Try.prog 62 #[.agg #[.int .i64 m, .int .i64 d], .int .i64 n, .int .i64 c] w fun e w' => e = .returned (.bool (inB c lw hw)) ∧ Kept w w' := by
  have HL := Lib.hid hL
  have HH := Lib.hid hH
  clear hL hH
  obtain ⟨W0, hW0⟩ : ∃ W0, W0 = w.alloc (.cells #[.int .i64 m, .int .i64 d] 23) := ⟨_, rfl⟩
  have k0 : Kept w W0 := by rw [hW0]; exact ((Kept.refl _).alloc _)
  have c00 : W0.cell? ⟨w.heap.size, 0, none⟩ = some (.int .i64 m) := by rw [hW0]; exact cellNew (by simp) rfl
  have c01 : W0.cell? ⟨w.heap.size, 1, none⟩ = some (.int .i64 d) := by rw [hW0]; exact cellNew (by simp) rfl
  have BR : RowKit.Hid (∀ W, Kept W0 W → W.cell? ⟨w.heap.size, 0, none⟩ = some (.int .i64 m) ∧ W.cell? ⟨w.heap.size, 1, none⟩ = some (.int .i64 d)) := Lib.hid (fun W hW => ⟨(hW.cells _ _ (cell_lt c00)).trans c00, (hW.cells _ _ (cell_lt c01)).trans c01⟩)
  have Z0 : W0.heap.size = w.heap.size + 1 := by rw [hW0]; simp
  have ZZ := Lib.hid Z0
  have HW := Lib.hid hW0
  have K0 := Lib.hid k0
  clear hW0 k0 Z0
  have kk := Kept.refl W0
  have b0 := cell_lt c00
  go_enter Try.func62, Try.ntmps62
  go_upto_region 1 with (fail)
  rw [← HW.out]
  go_region_with (first
        | (go_at_call 67; refine (HL.out _).mono ?_; rintro e w1 ⟨rfl, hk⟩; replace kk := (by first | with_reducible exact kk.trans hk | with_reducible exact (kk.alloc _).trans hk | with_reducible exact kk.drew.trans hk | with_reducible exact (kk.drew.alloc _).trans hk | with_reducible exact (kk.alloc _).drew.trans hk | with_reducible exact ((kk.alloc _).alloc _).trans hk | with_reducible exact ((kk.drew.alloc _).alloc _).trans hk | fail); obtain ⟨c00, c01⟩ := BR.out _ kk; have b0 := cell_lt c00; have hka := hk)
        | (go_at_call 68; refine (HH.out _).mono ?_; rintro e w1 ⟨rfl, hk⟩; replace kk := (by first | with_reducible exact kk.trans hk | with_reducible exact (kk.alloc _).trans hk | with_reducible exact kk.drew.trans hk | with_reducible exact (kk.drew.alloc _).trans hk | with_reducible exact (kk.alloc _).drew.trans hk | with_reducible exact ((kk.alloc _).alloc _).trans hk | with_reducible exact ((kk.drew.alloc _).alloc _).trans hk | fail); obtain ⟨c00, c01⟩ := BR.out _ kk; have b0 := cell_lt c00; have hkb := hk)
        | (go_at_call 98; refine (within1 _ _ _ _ c _ (by first | exact cellNew (by simp) rfl | exact (hkb.cells _ _ (by first | (simp; done) | (have z1 := hka.size; have z2 := hkb.size; simp at z1 z2 ⊢; omega))).trans (cellNew (by simp) rfl) | exact (hka.cells _ _ (by first | (simp; done) | (have z1 := hka.size; have z2 := hkb.size; simp at z1 z2 ⊢; omega))).trans (cellNew (by simp) rfl) | exact (hkb.cells _ _ (by first | (simp; done) | (have z1 := hka.size; have z2 := hkb.size; simp at z1 z2 ⊢; omega))).trans ((hka.cells _ _ (by first | (simp; done) | (have z1 := hka.size; have z2 := hkb.size; simp at z1 z2 ⊢; omega))).trans (cellNew (by simp) rfl)) | exact (hka.cells _ _ (by first | (simp; done) | (have z1 := hka.size; have z2 := hkb.size; simp at z1 z2 ⊢; omega))).trans ((hkb.cells _ _ (by first | (simp; done) | (have z1 := hka.size; have z2 := hkb.size; simp at z1 z2 ⊢; omega))).trans (cellNew (by simp) rfl)) | fail)).mono ?_; rintro e w1 ⟨rfl, rfl⟩)
        | fail)
  all_goals go_wp2
  all_goals go_ret
  all_goals exact ⟨rfl, K0.out.trans (by first | with_reducible exact kk | with_reducible exact kk.alloc _ | with_reducible exact kk.drew | with_reducible exact kk.drew.alloc _ | with_reducible exact (kk.alloc _).alloc _ | fail)⟩
theorem fits_any (m d n c : Int) (hm : 0 ≤ m) (hm1 : m ≤ 500) (hd : 0 ≤ d) (hd1 : d ≤ 500) (hn : 0 ≤ n) (hn1 : n ≤ 100000) (w : World) :
    Calls Try.prog 62 #[.agg #[.int .i64 m, .int .i64 d], .int .i64 n, .int .i64 c] w fun e w' => e = .returned (.bool (inB c (loI m n) (hiI d n))) ∧ Kept w w' :=
  fitsG_any m d n c _ _ (fun W => least_any m d n hn hn1 hm hm1 W) (fun W => greatest_any m d n hn hn1 hd hd1 W) w

end Go.Proofs.Ytjaicilnlgjdcaa
