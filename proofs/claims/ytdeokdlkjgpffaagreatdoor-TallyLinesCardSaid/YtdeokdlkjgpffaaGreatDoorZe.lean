/- the reference's Write, WriteRecount -/
import Derived.Test.YtdeokdlkjgpffaaGreatDoorZd
namespace Go.Proofs.YtdeokdlkjgpffaaGreatDoor
set_option linter.all false
open Go.RowKit Go.Shelf

theorem ct_pos {x : Ct} (h : ctB x = true) : posB (ctNums x) := fun y hy => ⟨(ct_bd h y hy).1, by have := (ct_bd h y hy).2; omega⟩
theorem rc_pos {x : Rcn} (h : rcB x = true) : posB (rcNums x) := fun y hy => ⟨(rc_bd h y hy).1, by have := (rc_bd h y hy).2; omega⟩
set_option maxRecDepth 100000 in
set_option maxHeartbeats 1600000 in
theorem rwrite_any (x : Ct) (w : World) :
    Calls Tryz.prog 7 #[ctV x] w fun e w' => e = .returned (.tuple #[.string (ctLine x), .int .i64 (errI (ctB x))]) ∧ Kept w w' := by
  obtain ⟨W0, hW0⟩ : ∃ W0, W0 = w.alloc (.cells #[.int .i64 x.id, .int .i64 x.dy, .int .i64 x.sh, .int .i64 x.nu, .int .i64 x.wo] 23) := ⟨_, rfl⟩
  have K0 : RowKit.Hid (Kept w W0) := Lib.hid (by rw [hW0]; exact (Kept.refl _).alloc _)
  have R0 : RowKit.Hid (RowC W0 w.heap.size (ctCells x)) := Lib.hid (by rw [hW0]; exact RowC.new w (ctCells x) 23)
  have HW := Lib.hid hW0
  clear hW0
  have a0 := (R0.out 0 _ rfl).1
  have a1 := (R0.out 1 _ rfl).1
  have a2 := (R0.out 2 _ rfl).1
  have a3 := (R0.out 3 _ rfl).1
  have a4 := (R0.out 4 _ rfl).1
  have la := cell_lt a0
  obtain ⟨cb, hcb⟩ : ∃ cb, cb = ctB x := ⟨_, rfl⟩
  have HC : RowKit.Hid (∀ W, Calls Tryz.prog 26 #[.agg #[.int .i64 x.id, .int .i64 x.dy, .int .i64 x.sh, .int .i64 x.nu, .int .i64 x.wo]] W fun e w' => e = .returned (.int .i64 (errI cb)) ∧ Kept W w') := Lib.hid (fun W => by rw [hcb]; exact rcount_any _ _ _ _ _ W)
  have HCB := Lib.hid hcb
  clear hcb
  unfold ctV
  go_enter Tryz.func7, Tryz.ntmps7
  go_upto_region 1 with (fail)
  rw [← HW.out]
  go_wp2_with fail
  refine (HC.out _).mono ?_
  rintro e w3 ⟨rfl, hk3⟩
  have K3 := Lib.hid hk3
  replace a0 := (hk3.cells _ _ la).trans a0
  replace a1 := (hk3.cells _ _ la).trans a1
  replace a2 := (hk3.cells _ _ la).trans a2
  replace a3 := (hk3.cells _ _ la).trans a3
  replace a4 := (hk3.cells _ _ la).trans a4
  replace la := cell_lt a0
  clear hk3
  have he1 : ((1 : Int) != 0) = true := by decide
  have he0 : ((0 : Int) != 0) = false := by decide
  cases cb
  · rw [errI_false]
    have HL : RowKit.Hid (ctLine x = emptyB) := Lib.hid (by unfold ctLine; rw [← HCB.out]; rfl)
    go_wp2
    go_ret2
    exact ⟨by rw [HL.out, ← HCB.out]; rfl, K0.out.trans K3.out⟩
  · rw [errI_true]
    have HL : RowKit.Hid (ctLine x = numsB (ctNums x)) := Lib.hid (by unfold ctLine; rw [← HCB.out]; rfl)
    have HX : RowKit.Hid (IntA (w3.alloc (.cells #[.int .i64 x.id, .int .i64 x.dy, .int .i64 x.sh, .int .i64 x.nu, .int .i64 x.wo] 3)) (some ⟨w3.heap.size, 0, none⟩) 5 5 (ctNums x)) := Lib.hid ⟨rfl, by omega, by omega, fun _ => ⟨_, _, rfl, fun i y hy => by
      rw [Nat.zero_add]
      exact (RowC.new w3 (ctCells x) 3 i _ (by match i with | 0 | 1 | 2 | 3 | 4 => (simp [ctNums] at hy; subst hy; rfl) | i + 5 => simp [ctNums] at hy)).1⟩⟩
    have HW : RowKit.Hid (Calls Tryz.prog 27 #[.slice (some ⟨w3.heap.size, 0, none⟩) 5 5] (w3.alloc (.cells #[.int .i64 x.id, .int .i64 x.dy, .int .i64 x.sh, .int .i64 x.nu, .int .i64 x.wo] 3)) fun e w' => e = .returned (.string (ctLine x)) ∧ Kept (w3.alloc (.cells #[.int .i64 x.id, .int .i64 x.dy, .int .i64 x.sh, .int .i64 x.nu, .int .i64 x.wo] 3)) w') := Lib.hid (by rw [HL.out]; exact line_any _ 5 5 (ctNums x) _ HX.out (ct_pos HCB.out.symm) (by omega))
    go_wp2_with fail
    refine HW.out.mono ?_
    rintro e w5 ⟨rfl, hk5⟩
    have K5 := Lib.hid hk5
    clear hk5
    go_wp2
    go_ret2
    exact ⟨by rw [← HCB.out]; rfl, K0.out.trans ((K3.out.alloc _).trans K5.out)⟩

set_option maxRecDepth 100000 in
set_option maxHeartbeats 1600000 in
theorem rwriteRecount_any (x : Rcn) (w : World) :
    Calls Tryz.prog 11 #[rcV x] w fun e w' => e = .returned (.tuple #[.string (rcLine x), .int .i64 (errI (rcB x))]) ∧ Kept w w' := by
  obtain ⟨W0, hW0⟩ : ∃ W0, W0 = w.alloc (.cells #[.int .i64 x.id, .int .i64 x.dy, .int .i64 x.kn, .int .i64 x.sh, .int .i64 x.tr, .int .i64 x.nu] 25) := ⟨_, rfl⟩
  have K0 : RowKit.Hid (Kept w W0) := Lib.hid (by rw [hW0]; exact (Kept.refl _).alloc _)
  have R0 : RowKit.Hid (RowC W0 w.heap.size (rcCells x)) := Lib.hid (by rw [hW0]; exact RowC.new w (rcCells x) 25)
  have HW := Lib.hid hW0
  clear hW0
  have a0 := (R0.out 0 _ rfl).1
  have a1 := (R0.out 1 _ rfl).1
  have a2 := (R0.out 2 _ rfl).1
  have a3 := (R0.out 3 _ rfl).1
  have a4 := (R0.out 4 _ rfl).1
  have a5 := (R0.out 5 _ rfl).1
  have la := cell_lt a0
  obtain ⟨cb, hcb⟩ : ∃ cb, cb = rcB x := ⟨_, rfl⟩
  have HC : RowKit.Hid (∀ W, Calls Tryz.prog 31 #[.agg #[.int .i64 x.id, .int .i64 x.dy, .int .i64 x.kn, .int .i64 x.sh, .int .i64 x.tr, .int .i64 x.nu]] W fun e w' => e = .returned (.int .i64 (errI cb)) ∧ Kept W w') := Lib.hid (fun W => by rw [hcb]; exact rrecount_any _ _ _ _ _ _ W)
  have HCB := Lib.hid hcb
  clear hcb
  unfold rcV
  go_enter Tryz.func11, Tryz.ntmps11
  go_upto_region 1 with (fail)
  rw [← HW.out]
  go_wp2_with fail
  refine (HC.out _).mono ?_
  rintro e w3 ⟨rfl, hk3⟩
  have K3 := Lib.hid hk3
  replace a0 := (hk3.cells _ _ la).trans a0
  replace a1 := (hk3.cells _ _ la).trans a1
  replace a2 := (hk3.cells _ _ la).trans a2
  replace a3 := (hk3.cells _ _ la).trans a3
  replace a4 := (hk3.cells _ _ la).trans a4
  replace a5 := (hk3.cells _ _ la).trans a5
  replace la := cell_lt a0
  clear hk3
  have he1 : ((1 : Int) != 0) = true := by decide
  have he0 : ((0 : Int) != 0) = false := by decide
  cases cb
  · rw [errI_false]
    have HL : RowKit.Hid (rcLine x = emptyB) := Lib.hid (by unfold rcLine; rw [← HCB.out]; rfl)
    go_wp2
    go_ret2
    exact ⟨by rw [HL.out, ← HCB.out]; rfl, K0.out.trans K3.out⟩
  · rw [errI_true]
    have HL : RowKit.Hid (rcLine x = numsB (rcNums x)) := Lib.hid (by unfold rcLine; rw [← HCB.out]; rfl)
    have HX : RowKit.Hid (IntA (w3.alloc (.cells #[.int .i64 x.id, .int .i64 x.kn, .int .i64 x.dy, .int .i64 x.sh, .int .i64 x.tr, .int .i64 x.nu] 3)) (some ⟨w3.heap.size, 0, none⟩) 6 6 (rcNums x)) := Lib.hid ⟨rfl, by omega, by omega, fun _ => ⟨_, _, rfl, fun i y hy => by
      rw [Nat.zero_add]
      exact (RowC.new w3 [.int .i64 x.id, .int .i64 x.kn, .int .i64 x.dy, .int .i64 x.sh, .int .i64 x.tr, .int .i64 x.nu] 3 i _ (by match i with | 0 | 1 | 2 | 3 | 4 | 5 => (simp [rcNums] at hy; subst hy; rfl) | i + 6 => simp [rcNums] at hy)).1⟩⟩
    have HW : RowKit.Hid (Calls Tryz.prog 27 #[.slice (some ⟨w3.heap.size, 0, none⟩) 6 6] (w3.alloc (.cells #[.int .i64 x.id, .int .i64 x.kn, .int .i64 x.dy, .int .i64 x.sh, .int .i64 x.tr, .int .i64 x.nu] 3)) fun e w' => e = .returned (.string (rcLine x)) ∧ Kept (w3.alloc (.cells #[.int .i64 x.id, .int .i64 x.kn, .int .i64 x.dy, .int .i64 x.sh, .int .i64 x.tr, .int .i64 x.nu] 3)) w') := Lib.hid (by rw [HL.out]; exact line_any _ 6 6 (rcNums x) _ HX.out (rc_pos HCB.out.symm) (by omega))
    go_wp2_with fail
    refine HW.out.mono ?_
    rintro e w5 ⟨rfl, hk5⟩
    have K5 := Lib.hid hk5
    clear hk5
    go_wp2
    go_ret2
    exact ⟨by rw [← HCB.out]; rfl, K0.out.trans ((K3.out.alloc _).trans K5.out)⟩
end Go.Proofs.YtdeokdlkjgpffaaGreatDoor
