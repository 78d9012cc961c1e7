/- Read, ReadRecount -/
import Derived.Test.YtdeokdlkjgpffaaGreatDoorXe
namespace Go.Proofs.YtdeokdlkjgpffaaGreatDoor
set_option linter.all false
open Go.RowKit Go.Shelf

def zeroCt : Ct := ⟨0, 0, 0, 0, 0⟩
def zeroRc : Rcn := ⟨0, 0, 0, 0, 0, 0⟩
def mkCt (l : List Int) : Ct := ⟨l.getD 0 0, l.getD 1 0, l.getD 2 0, l.getD 3 0, l.getD 4 0⟩
def mkRc (l : List Int) : Rcn := ⟨l.getD 0 0, l.getD 2 0, l.getD 1 0, l.getD 3 0, l.getD 4 0, l.getD 5 0⟩
/-- what Read, ReadRecount give -/
def readC (line : ByteArray) : Ct × Int := if ((readN line 5).2 && ctB (mkCt (readN line 5).1)) = true then (mkCt (readN line 5).1, 0) else (zeroCt, 4)
def readR (line : ByteArray) : Rcn × Int := if ((readN line 6).2 && rcB (mkRc (readN line 6).1)) = true then (mkRc (readN line 6).1, 0) else (zeroRc, 4)
theorem readN_len {line : ByteArray} {size : Nat} (h : (readN line size).2 = true) : (readN line size).1.length = size := by
  unfold readN at h ⊢
  split at h
  · rename_i h1
    rw [if_pos h1]
    simpa [valsS] using h1
  · simp at h

set_option maxRecDepth 100000 in
set_option maxHeartbeats 4000000 in
theorem read_any (line : ByteArray) (hl : line.size ≤ 1000000) (w : World) (hE : Env w) :
    Calls Tryz.prog 8 #[.string line] w fun e w' => e = .returned (.tuple #[ctV (readC line).1, .int .i64 (readC line).2]) ∧ Kept w w' := by
  obtain ⟨W0, hW0⟩ : ∃ W0, W0 = w.alloc (.cells #[.int .i64 0, .int .i64 0, .int .i64 0, .int .i64 0, .int .i64 0] 23) := ⟨_, rfl⟩
  have K0 : RowKit.Hid (Kept w W0) := Lib.hid (by rw [hW0]; exact (Kept.refl _).alloc _)
  have R0 : RowKit.Hid (RowC W0 w.heap.size (ctCells zeroCt)) := Lib.hid (by rw [hW0]; exact RowC.new w (ctCells zeroCt) 23)
  have Z0 : RowKit.Hid (W0.heap.size = w.heap.size + 1) := Lib.hid (by rw [hW0]; simp)
  have HW := Lib.hid hW0
  have HE := Lib.hid (hE.kept K0.out)
  clear hW0 hE
  obtain ⟨⟨xs, ok⟩, hN⟩ : ∃ r, r = readN line 5 := ⟨_, rfl⟩
  have HC : RowKit.Hid (readC line = if (ok && ctB (mkCt xs)) = true then (mkCt xs, 0) else (zeroCt, 4)) := Lib.hid (by unfold readC; rw [← hN])
  have HL : RowKit.Hid (ok = true → xs.length = 5) := Lib.hid (fun h => by have := readN_len (line := line) (size := 5) (by rw [← hN]; exact h); rw [← hN] at this; exact this)
  have HR : RowKit.Hid (Calls Tryz.prog 28 #[.string line, .int .i64 5] W0 fun e w' => ∃ A n c, e = .returned (.tuple #[.slice A n c, .bool ok]) ∧ IntA w' A n c xs ∧ (∀ a, A = some a → W0.heap.size ≤ a.block) ∧ Kept W0 w') := Lib.hid (by
    have := readNumbers_any line 5 hl (by omega) W0 HE.out
    unfold ReadNums at this
    rw [← hN] at this
    exact this)
  clear hN
  go_enter Tryz.func8, Tryz.ntmps8
  go_upto_region 1 with (fail)
  rw [← HW.out]
  go_wp2_with fail
  refine HR.out.mono ?_
  rintro e w3 ⟨A, n, c, rfl, hi3, hf3, hk3⟩
  have HI3 := Lib.hid hi3
  have HF3 := Lib.hid hf3
  have K3 := Lib.hid hk3
  have R3 := Lib.hid (R0.out.kept hk3)
  have a0 := (R3.out 0 _ rfl).1
  have a1 := (R3.out 1 _ rfl).1
  have a2 := (R3.out 2 _ rfl).1
  have a3 := (R3.out 3 _ rfl).1
  have a4 := (R3.out 4 _ rfl).1
  have f0 := (R3.out 0 _ rfl).2
  have f1 := (R3.out 1 _ rfl).2
  have f2 := (R3.out 2 _ rfl).2
  have f3 := (R3.out 3 _ rfl).2
  have f4 := (R3.out 4 _ rfl).2
  have la := cell_lt a0
  dsimp only [zeroCt] at a0 a1 a2 a3 a4
  have KX := Lib.hid (K0.out.trans hk3)
  clear hi3 hf3 hk3
  cases ok
  · have HD : RowKit.Hid (readC line = (zeroCt, 4)) := Lib.hid (by rw [HC.out]; rfl)
    go_wp2
    refine bodyPost_ret (v := .tuple #[ctV zeroCt, .int .i64 4]) (by simp [results, Tryz.results8, go_sem, a0, a1, a2, a3, a4, ctV, zeroCt]) rfl ⟨by rw [HD.out], ?_⟩
    exact ((((KX.out.setCell (by simp; try omega) _).setCell (by simp; try omega) _).setCell (by simp; try omega) _).setCell (by simp; try omega) _).setCell (by simp; try omega) _
  · have h5 := HL.out rfl
    obtain ⟨x0, x1, x2, x3, x4, rfl⟩ : ∃ x0 x1 x2 x3 x4, xs = [x0, x1, x2, x3, x4] := by
      match xs, h5 with
      | [x0, x1, x2, x3, x4], _ => exact ⟨_, _, _, _, _, rfl⟩
    obtain ⟨cb, hcb⟩ : ∃ cb, cb = ctB ⟨x0, x1, x2, x3, x4⟩ := ⟨_, rfl⟩
    have HCB := Lib.hid hcb
    have HK : RowKit.Hid (∀ W, Calls Tryz.prog 24 #[.agg #[.int .i64 x0, .int .i64 x1, .int .i64 x2, .int .i64 x3, .int .i64 x4]] W fun e w' => e = .returned (.bool cb) ∧ Kept W w') := Lib.hid (fun W => by rw [hcb]; exact isCount_any _ _ _ _ _ W)
    have HD : RowKit.Hid (readC line = if cb = true then (⟨x0, x1, x2, x3, x4⟩, 0) else (zeroCt, 4)) := Lib.hid (by rw [HC.out, hcb]; rfl)
    obtain rfl : n = 5 := HI3.out.1.symm
    obtain ⟨bp, op, hA, hpt⟩ := HI3.out.2.2.2 (by omega)
    subst hA
    have hnc := HI3.out.2.1
    have hcm := HI3.out.2.2.1
    have g0 := hpt 0 _ rfl
    have g1 := hpt 1 _ rfl
    have g2 := hpt 2 _ rfl
    have g3 := hpt 3 _ rfl
    have g4 := hpt 4 _ rfl
    simp only [Nat.add_zero] at g0
    clear hpt hcb
    go_upto_region 4 with (fail)
    have SB : RowKit.Hid (∀ W, Kept w3 W → W.cell? ⟨bp, op, none⟩ = some (.int .i64 x0) ∧ W.cell? ⟨bp, op + 1, none⟩ = some (.int .i64 x1) ∧ W.cell? ⟨bp, op + 2, none⟩ = some (.int .i64 x2) ∧ W.cell? ⟨bp, op + 3, none⟩ = some (.int .i64 x3) ∧ W.cell? ⟨bp, op + 4, none⟩ = some (.int .i64 x4) ∧ Kept w3 W) := Lib.hid (fun W hW => ⟨(hW.cells _ _ (cell_lt g0)).trans g0, (hW.cells _ _ (cell_lt g1)).trans g1, (hW.cells _ _ (cell_lt g2)).trans g2, (hW.cells _ _ (cell_lt g3)).trans g3, (hW.cells _ _ (cell_lt g4)).trans g4, hW⟩)
    have kd : Kept w3 w3.drew := (Kept.refl w3).drew
    have SD := Lib.hid (SB.out _ kd)
    go_cut [6] (fun sa wx => ∃ bx, sa = .pointer (some ⟨bx, 0, none⟩) ∧ w3.heap.size ≤ bx ∧ RowC wx bx [.int .i64 x0, .int .i64 x1, .int .i64 x2, .int .i64 x3, .int .i64 x4] ∧ Kept w3 wx)
    case first =>
      go_region_held3 (fun W => W.cell? ⟨bp, op, none⟩ = some (.int .i64 x0) ∧ W.cell? ⟨bp, op + 1, none⟩ = some (.int .i64 x1) ∧ W.cell? ⟨bp, op + 2, none⟩ = some (.int .i64 x2) ∧ W.cell? ⟨bp, op + 3, none⟩ = some (.int .i64 x3) ∧ W.cell? ⟨bp, op + 4, none⟩ = some (.int .i64 x4) ∧ Kept w3 W)
        (first
          | (with_reducible exact SD.out)
          | (with_reducible exact SB.out _ (kd.alloc _))
          | (with_reducible exact SB.out _ ((Kept.refl w3).alloc _).drew)
          | (with_reducible exact SB.out _ ((Kept.refl w3).drew.alloc _))
          | fail)
        (fail)
      all_goals go_wp2
      all_goals go_meet
      all_goals exact ⟨w3.heap.size, rfl, Nat.le_refl _, by simpa using (RowC.new w3 [.int .i64 x0, .int .i64 x1, .int .i64 x2, .int .i64 x3, .int .i64 x4] 23).drew, ((Kept.refl w3).alloc _).drew⟩
    obtain ⟨bx, rfl, hbx, rx, kx⟩ := hcut
    obtain ⟨w4, rfl⟩ : ∃ w4, w4 = wc := ⟨_, rfl⟩
    replace R3 := Lib.hid (R3.out.kept kx)
    have RX := Lib.hid rx
    have HKX := Lib.hid kx
    have y0 := (rx 0 _ rfl).1
    have y1 := (rx 1 _ rfl).1
    have y2 := (rx 2 _ rfl).1
    have y3 := (rx 3 _ rfl).1
    have y4 := (rx 4 _ rfl).1
    clear g0 g1 g2 g3 g4 rx kx a0 a1 a2 a3 a4 f0 f1 f2 f3 f4 la kd
    go_wp2_with fail
    refine (HK.out _).mono ?_
    rintro e w5 ⟨rfl, hk5⟩
    have K5 := Lib.hid hk5
    have R5 := Lib.hid (R3.out.kept hk5)
    have a0 := (R5.out 0 _ rfl).1
    have a1 := (R5.out 1 _ rfl).1
    have a2 := (R5.out 2 _ rfl).1
    have a3 := (R5.out 3 _ rfl).1
    have a4 := (R5.out 4 _ rfl).1
    have f0 := (R5.out 0 _ rfl).2
    have f1 := (R5.out 1 _ rfl).2
    have f2 := (R5.out 2 _ rfl).2
    have f3 := (R5.out 3 _ rfl).2
    have f4 := (R5.out 4 _ rfl).2
    have la := cell_lt a0
    dsimp only [zeroCt] at a0 a1 a2 a3 a4
    have RY := Lib.hid (RX.out.kept hk5)
    replace y0 := (RY.out 0 _ rfl).1
    replace y1 := (RY.out 1 _ rfl).1
    replace y2 := (RY.out 2 _ rfl).1
    replace y3 := (RY.out 3 _ rfl).1
    replace y4 := (RY.out 4 _ rfl).1
    have ly := cell_lt y0
    have hne : bx ≠ w.heap.size := by have := K3.out.size; have := Z0.out; omega
    have KY := Lib.hid (KX.out.trans (HKX.out.trans hk5))
    clear hk5
    cases cb
    · go_wp2
      refine bodyPost_ret (v := .tuple #[ctV zeroCt, .int .i64 4]) (by simp [results, Tryz.results8, go_sem, a0, a1, a2, a3, a4, ctV, zeroCt]) rfl ⟨by rw [HD.out]; rfl, ?_⟩
      exact ((((KY.out.setCell (by simp; try omega) _).setCell (by simp; try omega) _).setCell (by simp; try omega) _).setCell (by simp; try omega) _).setCell (by simp; try omega) _
    · go_wp2
      refine bodyPost_ret (v := .tuple #[ctV ⟨x0, x1, x2, x3, x4⟩, .int .i64 0]) (by simp [results, Tryz.results8, go_sem, a0, a1, a2, a3, a4, ctV]) rfl ⟨by rw [HD.out]; rfl, ?_⟩
      exact ((((KY.out.setCell (by simp; try omega) _).setCell (by simp; try omega) _).setCell (by simp; try omega) _).setCell (by simp; try omega) _).setCell (by simp; try omega) _
end Go.Proofs.YtdeokdlkjgpffaaGreatDoor
