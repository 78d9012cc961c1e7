/- the reference's readRecount -/
import Derived.Test.YtdeokdlkjgpffaaGreatDoorZf
namespace Go.Proofs.YtdeokdlkjgpffaaGreatDoor
set_option linter.all false
open Go.RowKit Go.Shelf

set_option maxRecDepth 100000 in
set_option maxHeartbeats 8000000 in
theorem rreadRecount_any (line : ByteArray) (hl : line.size ≤ 1000) (w : World) :
    Calls Tryz.prog 13 #[.string line] w fun e w' => e = .returned (.tuple #[rcV (refR (numF line.data.toList [] 0 0) line).1, .int .i64 (refR (numF line.data.toList [] 0 0) line).2]) ∧ Kept w w' := by
  obtain ⟨W0, hW0⟩ : ∃ W0, W0 = w.alloc (.cells #[.int .i64 0, .int .i64 0, .int .i64 0, .int .i64 0, .int .i64 0, .int .i64 0] 25) := ⟨_, rfl⟩
  have K0 : RowKit.Hid (Kept w W0) := Lib.hid (by rw [hW0]; exact (Kept.refl _).alloc _)
  have R0 : RowKit.Hid (RowC W0 w.heap.size (rcCells zeroRc)) := Lib.hid (by rw [hW0]; exact RowC.new w (rcCells zeroRc) 25)
  have Z0 : RowKit.Hid (W0.heap.size = w.heap.size + 1) := Lib.hid (by rw [hW0]; simp)
  have HW := Lib.hid hW0
  clear hW0
  obtain ⟨xs, hN⟩ : ∃ r, r = numF line.data.toList [] 0 0 := ⟨_, rfl⟩
  rw [← hN]
  have HPB : RowKit.Hid (posB xs) := Lib.hid (by rw [hN]; exact numF_pos line)
  have HR : RowKit.Hid (Calls Tryz.prog 29 #[.string line] W0 fun e w' => ∃ A n c, e = .returned (.slice A n c) ∧ IntA w' A n c xs ∧ Kept W0 w') := Lib.hid (by
    have := numbers_any line hl W0
    unfold NumsRes at this
    rw [← hN] at this
    exact this)
  clear hN
  go_enter Tryz.func13, Tryz.ntmps13
  go_upto_region 1 with (fail)
  rw [← HW.out]
  go_wp2_with fail
  refine HR.out.mono ?_
  rintro e w3 ⟨A, n, c, rfl, hi3, hk3⟩
  have HI3 := Lib.hid hi3
  have K3 := Lib.hid hk3
  have R3 := Lib.hid (R0.out.kept hk3)
  have a0 := (R3.out 0 _ rfl).1
  have a1 := (R3.out 1 _ rfl).1
  have a2 := (R3.out 2 _ rfl).1
  have a3 := (R3.out 3 _ rfl).1
  have a4 := (R3.out 4 _ rfl).1
  have a5 := (R3.out 5 _ rfl).1
  have f0 := (R3.out 0 _ rfl).2
  have f1 := (R3.out 1 _ rfl).2
  have f2 := (R3.out 2 _ rfl).2
  have f3 := (R3.out 3 _ rfl).2
  have f4 := (R3.out 4 _ rfl).2
  have f5 := (R3.out 5 _ rfl).2
  have la := cell_lt a0
  dsimp only [zeroRc] at a0 a1 a2 a3 a4 a5
  have KX := Lib.hid (K0.out.trans hk3)
  clear hi3 hk3
  by_cases h5 : n = 6
  rotate_left
  · have HD : RowKit.Hid (refR xs line = (zeroRc, 4)) := Lib.hid (by
      unfold refR
      rw [if_neg (by have := HI3.out.1; simp; intro h; omega)])
    have hnn : ((n : Int) != 6) = true := by simp; omega
    go_wp2
    refine bodyPost_ret (v := .tuple #[rcV zeroRc, .int .i64 4]) (by simp [results, Tryz.results13, go_sem, a0, a1, a2, a3, a4, a5, rcV, zeroRc]) rfl ⟨by rw [HD.out], ?_⟩
    exact (((((KX.out.setCell (by simp; try omega) _).setCell (by simp; try omega) _).setCell (by simp; try omega) _).setCell (by simp; try omega) _).setCell (by simp; try omega) _).setCell (by simp; try omega) _
  · subst h5
    obtain ⟨x0, x1, x2, x3, x4, x5, rfl⟩ : ∃ x0 x1 x2 x3 x4 x5, xs = [x0, x1, x2, x3, x4, x5] := by
      match xs, HI3.out.1 with
      | [x0, x1, x2, x3, x4, x5], _ => exact ⟨_, _, _, _, _, _, rfl⟩
    obtain ⟨cb, hcb⟩ : ∃ cb, cb = rcB ⟨x0, x2, x1, x3, x4, x5⟩ := ⟨_, rfl⟩
    have HCB := Lib.hid hcb
    obtain ⟨lb, hlb⟩ : ∃ lb, lb = numsB [x0, x1, x2, x3, x4, x5] := ⟨_, rfl⟩
    have HLB := Lib.hid hlb
    have HK : RowKit.Hid (∀ W, Calls Tryz.prog 31 #[.agg #[.int .i64 x0, .int .i64 x2, .int .i64 x1, .int .i64 x3, .int .i64 x4, .int .i64 x5]] W fun e w' => e = .returned (.int .i64 (errI cb)) ∧ Kept W w') := Lib.hid (fun W => by rw [hcb]; exact rrecount_any _ _ _ _ _ _ W)
    have HLI : RowKit.Hid (∀ W, IntA W A 6 c [x0, x1, x2, x3, x4, x5] → Calls Tryz.prog 27 #[.slice A 6 c] W fun e w' => e = .returned (.string lb) ∧ Kept W w') := Lib.hid (fun W hW => by rw [hlb]; exact line_any A 6 c [x0, x1, x2, x3, x4, x5] W hW HPB.out (by omega))
    have HD : RowKit.Hid (refR [x0, x1, x2, x3, x4, x5] line = if (cb && lb.toList == line.toList) = true then (⟨x0, x2, x1, x3, x4, x5⟩, 0) else (zeroRc, 4)) := Lib.hid (by rw [hcb, hlb]; rfl)
    obtain ⟨bp, op, hA, hpt⟩ := HI3.out.2.2.2 (by omega)
    subst hA
    have hnc := HI3.out.2.1
    have hcm := HI3.out.2.2.1
    have g0 := hpt 0 _ rfl
    have g1 := hpt 1 _ rfl
    have g2 := hpt 2 _ rfl
    have g3 := hpt 3 _ rfl
    have g4 := hpt 4 _ rfl
    have g5 := hpt 5 _ rfl
    simp only [Nat.add_zero] at g0
    clear hpt hcb hlb
    have hnn : ((6 : Int) != 6) = false := by decide
    go_upto_region 4 with (fail)
    have SB : RowKit.Hid (∀ W, Kept w3 W → W.cell? ⟨bp, op, none⟩ = some (.int .i64 x0) ∧ W.cell? ⟨bp, op + 1, none⟩ = some (.int .i64 x1) ∧ W.cell? ⟨bp, op + 2, none⟩ = some (.int .i64 x2) ∧ W.cell? ⟨bp, op + 3, none⟩ = some (.int .i64 x3) ∧ W.cell? ⟨bp, op + 4, none⟩ = some (.int .i64 x4) ∧ W.cell? ⟨bp, op + 5, none⟩ = some (.int .i64 x5) ∧ Kept w3 W) := Lib.hid (fun W hW => ⟨(hW.cells _ _ (cell_lt g0)).trans g0, (hW.cells _ _ (cell_lt g1)).trans g1, (hW.cells _ _ (cell_lt g2)).trans g2, (hW.cells _ _ (cell_lt g3)).trans g3, (hW.cells _ _ (cell_lt g4)).trans g4, (hW.cells _ _ (cell_lt g5)).trans g5, hW⟩)
    have kd : Kept w3 w3.drew := (Kept.refl w3).drew
    have SD := Lib.hid (SB.out _ kd)
    go_cut [5] (fun sa wx => ∃ bx, sa = .pointer (some ⟨bx, 0, none⟩) ∧ w3.heap.size ≤ bx ∧ RowC wx bx [.int .i64 x0, .int .i64 x2, .int .i64 x1, .int .i64 x3, .int .i64 x4, .int .i64 x5] ∧ Kept w3 wx)
    case first =>
      go_region_held3 (fun W => W.cell? ⟨bp, op, none⟩ = some (.int .i64 x0) ∧ W.cell? ⟨bp, op + 1, none⟩ = some (.int .i64 x1) ∧ W.cell? ⟨bp, op + 2, none⟩ = some (.int .i64 x2) ∧ W.cell? ⟨bp, op + 3, none⟩ = some (.int .i64 x3) ∧ W.cell? ⟨bp, op + 4, none⟩ = some (.int .i64 x4) ∧ W.cell? ⟨bp, op + 5, none⟩ = some (.int .i64 x5) ∧ Kept w3 W)
        (first
          | (with_reducible exact SD.out)
          | (with_reducible exact SB.out _ (kd.alloc _))
          | (with_reducible exact SB.out _ ((Kept.refl w3).alloc _).drew)
          | (with_reducible exact SB.out _ ((Kept.refl w3).drew.alloc _))
          | fail)
        (fail)
      all_goals go_wp2
      all_goals go_meet
      all_goals exact ⟨w3.heap.size, rfl, Nat.le_refl _, by simpa using (RowC.new w3 [.int .i64 x0, .int .i64 x2, .int .i64 x1, .int .i64 x3, .int .i64 x4, .int .i64 x5] 25).drew, ((Kept.refl w3).alloc _).drew⟩
    obtain ⟨bx, rfl, hbx, rx, kx⟩ := hcut
    obtain ⟨w4, rfl⟩ : ∃ w4, w4 = wc := ⟨_, rfl⟩
    replace R3 := Lib.hid (R3.out.kept kx)
    have RX := Lib.hid rx
    have HKX := Lib.hid kx
    have HI4 := Lib.hid (HI3.out.kept kx)
    have y0 := (rx 0 _ rfl).1
    have y1 := (rx 1 _ rfl).1
    have y2 := (rx 2 _ rfl).1
    have y3 := (rx 3 _ rfl).1
    have y4 := (rx 4 _ rfl).1
    have y5 := (rx 5 _ rfl).1
    clear g0 g1 g2 g3 g4 g5 rx kx a0 a1 a2 a3 a4 a5 f0 f1 f2 f3 f4 f5 la kd
    go_wp2_with fail
    refine (HK.out _).mono ?_
    rintro e w5 ⟨rfl, hk5⟩
    have K5 := Lib.hid hk5
    have he1 : ((1 : Int) != 0) = true := by decide
    have he0 : ((0 : Int) != 0) = false := by decide
    have hne : bx ≠ w.heap.size := by have := K3.out.size; have := Z0.out; omega
    cases cb
    · rw [errI_false]
      have R5 := Lib.hid (R3.out.kept hk5)
      have a0 := (R5.out 0 _ rfl).1
      have a1 := (R5.out 1 _ rfl).1
      have a2 := (R5.out 2 _ rfl).1
      have a3 := (R5.out 3 _ rfl).1
      have a4 := (R5.out 4 _ rfl).1
      have a5 := (R5.out 5 _ rfl).1
      have f0 := (R5.out 0 _ rfl).2
      have f1 := (R5.out 1 _ rfl).2
      have f2 := (R5.out 2 _ rfl).2
      have f3 := (R5.out 3 _ rfl).2
      have f4 := (R5.out 4 _ rfl).2
      have f5 := (R5.out 5 _ rfl).2
      have la := cell_lt a0
      dsimp only [zeroRc] at a0 a1 a2 a3 a4 a5
      have KY := Lib.hid (KX.out.trans (HKX.out.trans hk5))
      clear hk5 y0 y1 y2 y3 y4 y5
      go_wp2
      refine bodyPost_ret (v := .tuple #[rcV zeroRc, .int .i64 4]) (by simp [results, Tryz.results13, go_sem, a0, a1, a2, a3, a4, a5, rcV, zeroRc]) rfl ⟨by rw [HD.out]; rfl, ?_⟩
      exact (((((KY.out.setCell (by simp; try omega) _).setCell (by simp; try omega) _).setCell (by simp; try omega) _).setCell (by simp; try omega) _).setCell (by simp; try omega) _).setCell (by simp; try omega) _
    · rw [errI_true]
      have HI5 := Lib.hid (HI4.out.kept hk5)
      clear hk5 y0 y1 y2 y3 y4 y5
      go_wp2_with fail
      refine (HLI.out _ HI5.out).mono ?_
      rintro e w6 ⟨rfl, hk6⟩
      have hk56 := K5.out.trans hk6
      have R5 := Lib.hid (R3.out.kept hk56)
      have a0 := (R5.out 0 _ rfl).1
      have a1 := (R5.out 1 _ rfl).1
      have a2 := (R5.out 2 _ rfl).1
      have a3 := (R5.out 3 _ rfl).1
      have a4 := (R5.out 4 _ rfl).1
      have a5 := (R5.out 5 _ rfl).1
      have f0 := (R5.out 0 _ rfl).2
      have f1 := (R5.out 1 _ rfl).2
      have f2 := (R5.out 2 _ rfl).2
      have f3 := (R5.out 3 _ rfl).2
      have f4 := (R5.out 4 _ rfl).2
      have f5 := (R5.out 5 _ rfl).2
      have la := cell_lt a0
      dsimp only [zeroRc] at a0 a1 a2 a3 a4 a5
      have RY := Lib.hid (RX.out.kept hk56)
      have y0 := (RY.out 0 _ rfl).1
      have y1 := (RY.out 1 _ rfl).1
      have y2 := (RY.out 2 _ rfl).1
      have y3 := (RY.out 3 _ rfl).1
      have y4 := (RY.out 4 _ rfl).1
      have y5 := (RY.out 5 _ rfl).1
      have ly := cell_lt y0
      have KY := Lib.hid (KX.out.trans (HKX.out.trans hk56))
      clear hk6 hk56
      rcases hq : (lb.toList == line.toList) with _ | _
      · have HDD : RowKit.Hid (refR [x0, x1, x2, x3, x4, x5] line = (zeroRc, 4)) := Lib.hid (by rw [HD.out, hq]; rfl)
        go_wp2
        refine bodyPost_ret (v := .tuple #[rcV zeroRc, .int .i64 4]) (by simp [results, Tryz.results13, go_sem, a0, a1, a2, a3, a4, a5, rcV, zeroRc]) rfl ⟨by rw [HDD.out], ?_⟩
        exact (((((KY.out.setCell (by simp; try omega) _).setCell (by simp; try omega) _).setCell (by simp; try omega) _).setCell (by simp; try omega) _).setCell (by simp; try omega) _).setCell (by simp; try omega) _
      · have HDD : RowKit.Hid (refR [x0, x1, x2, x3, x4, x5] line = (⟨x0, x2, x1, x3, x4, x5⟩, 0)) := Lib.hid (by rw [HD.out, hq]; rfl)
        go_wp2
        refine bodyPost_ret (v := .tuple #[rcV ⟨x0, x2, x1, x3, x4, x5⟩, .int .i64 0]) (by simp [results, Tryz.results13, go_sem, a0, a1, a2, a3, a4, a5, rcV]) rfl ⟨by rw [HDD.out], ?_⟩
        exact (((((KY.out.setCell (by simp; try omega) _).setCell (by simp; try omega) _).setCell (by simp; try omega) _).setCell (by simp; try omega) _).setCell (by simp; try omega) _).setCell (by simp; try omega) _
theorem rreadRecount_eq (line : ByteArray) (hl : line.size ≤ 1000) (w : World) :
    Calls Tryz.prog 13 #[.string line] w fun e w' => e = .returned (.tuple #[rcV (readR line).1, .int .i64 (readR line).2]) ∧ Kept w w' := by
  have := rreadRecount_any line hl w
  rw [refR_eq] at this
  exact this
end Go.Proofs.YtdeokdlkjgpffaaGreatDoor
