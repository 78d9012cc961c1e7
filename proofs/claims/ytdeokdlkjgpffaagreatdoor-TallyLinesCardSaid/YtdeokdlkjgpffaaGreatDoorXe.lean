/- Write, WriteRecount -/
import Derived.Test.YtdeokdlkjgpffaaGreatDoorXd
namespace Go.Proofs.YtdeokdlkjgpffaaGreatDoor
set_option linter.all false
open Go.RowKit Go.Shelf

/-- a tally -/
structure Ct where
  id : Int
  dy : Int
  sh : Int
  nu : Int
  wo : Int
deriving DecidableEq
def ctV (x : Ct) : Value := .agg #[.int .i64 x.id, .int .i64 x.dy, .int .i64 x.sh, .int .i64 x.nu, .int .i64 x.wo]
def ctCells (x : Ct) : List Value := [.int .i64 x.id, .int .i64 x.dy, .int .i64 x.sh, .int .i64 x.nu, .int .i64 x.wo]
def ctB (x : Ct) : Bool := countB x.id x.dy x.sh x.nu x.wo
def ctNums (x : Ct) : List Int := [x.id, x.dy, x.sh, x.nu, x.wo]
def rcNums (x : Rcn) : List Int := [x.id, x.kn, x.dy, x.sh, x.tr, x.nu]
def emptyB : ByteArray := ⟨#[]⟩
/-- the line of a tally; of a re-count -/
def ctLine (x : Ct) : ByteArray := if ctB x = true then numsB (ctNums x) else emptyB
def rcLine (x : Rcn) : ByteArray := if rcB x = true then numsB (rcNums x) else emptyB
theorem ct_b {x : Ct} (h : ctB x = true) : i64B (ctNums x) := by
  unfold ctB countB entryB at h
  simp only [Bool.and_eq_true, List.all_cons, List.all_nil, Bool.and_true, inB_iff] at h
  intro y hy
  simp only [ctNums, List.mem_cons, List.not_mem_nil, or_false] at hy
  omega
theorem rc_b {x : Rcn} (h : rcB x = true) : i64B (rcNums x) := by
  unfold rcB recountB entryB at h
  simp only [Bool.and_eq_true, List.all_cons, List.all_nil, Bool.and_true, inB_iff, decide_eq_true_eq] at h
  intro y hy
  simp only [rcNums, List.mem_cons, List.not_mem_nil, or_false] at hy
  omega

set_option maxRecDepth 100000 in
set_option maxHeartbeats 1600000 in
theorem write_any (x : Ct) (w : World) (hE : Env w) :
    Calls Tryz.prog 6 #[ctV x] w fun e w' => e = .returned (.tuple #[.string (ctLine x), .int .i64 (errI (ctB x))]) ∧ Kept w w' := by
  obtain ⟨W0, hW0⟩ : ∃ W0, W0 = w.alloc (.cells #[.int .i64 x.id, .int .i64 x.dy, .int .i64 x.sh, .int .i64 x.nu, .int .i64 x.wo] 23) := ⟨_, rfl⟩
  have K0 : RowKit.Hid (Kept w W0) := Lib.hid (by rw [hW0]; exact (Kept.refl _).alloc _)
  have R0 : RowKit.Hid (RowC W0 w.heap.size (ctCells x)) := Lib.hid (by rw [hW0]; exact RowC.new w (ctCells x) 23)
  have HW := Lib.hid hW0
  have HE := Lib.hid (hE.kept K0.out)
  clear hW0 hE
  have a0 := (R0.out 0 _ rfl).1
  have a1 := (R0.out 1 _ rfl).1
  have a2 := (R0.out 2 _ rfl).1
  have a3 := (R0.out 3 _ rfl).1
  have a4 := (R0.out 4 _ rfl).1
  have la := cell_lt a0
  obtain ⟨cb, hcb⟩ : ∃ cb, cb = ctB x := ⟨_, rfl⟩
  have HC : RowKit.Hid (∀ W, Calls Tryz.prog 24 #[.agg #[.int .i64 x.id, .int .i64 x.dy, .int .i64 x.sh, .int .i64 x.nu, .int .i64 x.wo]] W fun e w' => e = .returned (.bool cb) ∧ Kept W w') := Lib.hid (fun W => by rw [hcb]; exact isCount_any _ _ _ _ _ W)
  have HCB := Lib.hid hcb
  clear hcb
  unfold ctV
  go_enter Tryz.func6, Tryz.ntmps6
  go_upto_region 1 with (fail)
  rw [← HW.out]
  go_wp2_with fail
  refine (HC.out _).mono ?_
  rintro e w3 ⟨rfl, hk3⟩
  have K3 := Lib.hid hk3
  replace a0 := (hk3.cells _ _ la).trans a0
  replace a1 := (hk3.cells _ _ la).trans a1
  replace a2 := (hk3.cells _ _ la).trans a2
  replace a3 := (hk3.cells _ _ la).trans a3
  replace a4 := (hk3.cells _ _ la).trans a4
  replace la := cell_lt a0
  clear hk3
  cases cb
  · have HL : RowKit.Hid (ctLine x = emptyB) := Lib.hid (by unfold ctLine; rw [← HCB.out]; rfl)
    go_wp2
    go_ret2
    exact ⟨by rw [HL.out, ← HCB.out]; rfl, K0.out.trans K3.out⟩
  · have HL : RowKit.Hid (ctLine x = numsB (ctNums x)) := Lib.hid (by unfold ctLine; rw [← HCB.out]; rfl)
    have HX : RowKit.Hid (IntA (w3.alloc (.cells #[.int .i64 x.id, .int .i64 x.dy, .int .i64 x.sh, .int .i64 x.nu, .int .i64 x.wo] 3)) (some ⟨w3.heap.size, 0, none⟩) 5 5 (ctNums x)) := Lib.hid ⟨rfl, by omega, by omega, fun _ => ⟨_, _, rfl, fun i y hy => by
      rw [Nat.zero_add]
      exact (RowC.new w3 (ctCells x) 3 i _ (by match i with | 0 | 1 | 2 | 3 | 4 => (simp [ctNums] at hy; subst hy; rfl) | i + 5 => simp [ctNums] at hy)).1⟩⟩
    have HW : RowKit.Hid (Calls Tryz.prog 25 #[.slice (some ⟨w3.heap.size, 0, none⟩) 5 5] (w3.alloc (.cells #[.int .i64 x.id, .int .i64 x.dy, .int .i64 x.sh, .int .i64 x.nu, .int .i64 x.wo] 3)) fun e w' => e = .returned (.string (ctLine x)) ∧ Kept (w3.alloc (.cells #[.int .i64 x.id, .int .i64 x.dy, .int .i64 x.sh, .int .i64 x.nu, .int .i64 x.wo] 3)) w') := Lib.hid (by rw [HL.out]; exact writeNumbers_any _ 5 5 (ctNums x) _ HX.out (ct_b HCB.out.symm) (by omega) ((HE.out.kept K3.out).kept ((Kept.refl _).alloc _)))
    go_wp2_with fail
    refine HW.out.mono ?_
    rintro e w5 ⟨rfl, hk5⟩
    have K5 := Lib.hid hk5
    clear hk5
    go_wp2
    go_ret2
    exact ⟨by rw [← HCB.out]; rfl, K0.out.trans ((K3.out.alloc _).trans K5.out)⟩

set_option maxRecDepth 100000 in
set_option maxHeartbeats 1600000 in
theorem writeRecount_any (x : Rcn) (w : World) (hE : Env w) :
    Calls Tryz.prog 10 #[rcV x] w fun e w' => e = .returned (.tuple #[.string (rcLine x), .int .i64 (errI (rcB x))]) ∧ Kept w w' := by
  obtain ⟨W0, hW0⟩ : ∃ W0, W0 = w.alloc (.cells #[.int .i64 x.id, .int .i64 x.dy, .int .i64 x.kn, .int .i64 x.sh, .int .i64 x.tr, .int .i64 x.nu] 25) := ⟨_, rfl⟩
  have K0 : RowKit.Hid (Kept w W0) := Lib.hid (by rw [hW0]; exact (Kept.refl _).alloc _)
  have R0 : RowKit.Hid (RowC W0 w.heap.size (rcCells x)) := Lib.hid (by rw [hW0]; exact RowC.new w (rcCells x) 25)
  have HW := Lib.hid hW0
  have HE := Lib.hid (hE.kept K0.out)
  clear hW0 hE
  have a0 := (R0.out 0 _ rfl).1
  have a1 := (R0.out 1 _ rfl).1
  have a2 := (R0.out 2 _ rfl).1
  have a3 := (R0.out 3 _ rfl).1
  have a4 := (R0.out 4 _ rfl).1
  have a5 := (R0.out 5 _ rfl).1
  have la := cell_lt a0
  obtain ⟨cb, hcb⟩ : ∃ cb, cb = rcB x := ⟨_, rfl⟩
  have HC : RowKit.Hid (∀ W, Calls Tryz.prog 30 #[.agg #[.int .i64 x.id, .int .i64 x.dy, .int .i64 x.kn, .int .i64 x.sh, .int .i64 x.tr, .int .i64 x.nu]] W fun e w' => e = .returned (.bool cb) ∧ Kept W w') := Lib.hid (fun W => by rw [hcb]; exact isRecount_any _ _ _ _ _ _ W)
  have HCB := Lib.hid hcb
  clear hcb
  unfold rcV
  go_enter Tryz.func10, Tryz.ntmps10
  go_upto_region 1 with (fail)
  rw [← HW.out]
  go_wp2_with fail
  refine (HC.out _).mono ?_
  rintro e w3 ⟨rfl, hk3⟩
  have K3 := Lib.hid hk3
  replace a0 := (hk3.cells _ _ la).trans a0
  replace a1 := (hk3.cells _ _ la).trans a1
  replace a2 := (hk3.cells _ _ la).trans a2
  replace a3 := (hk3.cells _ _ la).trans a3
  replace a4 := (hk3.cells _ _ la).trans a4
  replace a5 := (hk3.cells _ _ la).trans a5
  replace la := cell_lt a0
  clear hk3
  cases cb
  · have HL : RowKit.Hid (rcLine x = emptyB) := Lib.hid (by unfold rcLine; rw [← HCB.out]; rfl)
    go_wp2
    go_ret2
    exact ⟨by rw [HL.out, ← HCB.out]; rfl, K0.out.trans K3.out⟩
  · have HL : RowKit.Hid (rcLine x = numsB (rcNums x)) := Lib.hid (by unfold rcLine; rw [← HCB.out]; rfl)
    have HX : RowKit.Hid (IntA (w3.alloc (.cells #[.int .i64 x.id, .int .i64 x.kn, .int .i64 x.dy, .int .i64 x.sh, .int .i64 x.tr, .int .i64 x.nu] 3)) (some ⟨w3.heap.size, 0, none⟩) 6 6 (rcNums x)) := Lib.hid ⟨rfl, by omega, by omega, fun _ => ⟨_, _, rfl, fun i y hy => by
      rw [Nat.zero_add]
      exact (RowC.new w3 [.int .i64 x.id, .int .i64 x.kn, .int .i64 x.dy, .int .i64 x.sh, .int .i64 x.tr, .int .i64 x.nu] 3 i _ (by match i with | 0 | 1 | 2 | 3 | 4 | 5 => (simp [rcNums] at hy; subst hy; rfl) | i + 6 => simp [rcNums] at hy)).1⟩⟩
    have HW : RowKit.Hid (Calls Tryz.prog 25 #[.slice (some ⟨w3.heap.size, 0, none⟩) 6 6] (w3.alloc (.cells #[.int .i64 x.id, .int .i64 x.kn, .int .i64 x.dy, .int .i64 x.sh, .int .i64 x.tr, .int .i64 x.nu] 3)) fun e w' => e = .returned (.string (rcLine x)) ∧ Kept (w3.alloc (.cells #[.int .i64 x.id, .int .i64 x.kn, .int .i64 x.dy, .int .i64 x.sh, .int .i64 x.tr, .int .i64 x.nu] 3)) w') := Lib.hid (by rw [HL.out]; exact writeNumbers_any _ 6 6 (rcNums x) _ HX.out (rc_b HCB.out.symm) (by omega) ((HE.out.kept K3.out).kept ((Kept.refl _).alloc _)))
    go_wp2_with fail
    refine HW.out.mono ?_
    rintro e w5 ⟨rfl, hk5⟩
    have K5 := Lib.hid hk5
    clear hk5
    go_wp2
    go_ret2
    exact ⟨by rw [← HCB.out]; rfl, K0.out.trans ((K3.out.alloc _).trans K5.out)⟩
end Go.Proofs.YtdeokdlkjgpffaaGreatDoor
