/-
  allowedBy; the reference's least, greatest, span
-/
import Derived.Test.YtologmoanaccpaaDoorTg
namespace Go.Proofs.YtologmoanaccpaaDoor.Tly
set_option linter.all false
open Go.RowKit

theorem allowedBy_any (m d i dy s n x : Int) (hm : 0 ≤ m) (hm1 : m ≤ 500) (hd : 0 ≤ d) (hd1 : d ≤ 500) (hn : 0 ≤ n) (hn1 : n ≤ 200000) (hx : 0 ≤ x) (hx1 : x ≤ 10000) (w : World) :
    Calls Tryd.prog 28 #[.agg #[.int .i64 m, .int .i64 d], .agg #[.int .i64 i, .int .i64 dy, .int .i64 s, .int .i64 n, .int .i64 x]] w fun e w' => e = .returned (.agg #[.int .i64 (spL (leastOf d n) (mostOf m (n + x))), .int .i64 (spH (leastOf d n) (mostOf m (n + x))), .bool (spS (leastOf d n) (mostOf m (n + x)))]) ∧ Kept w w' := by
  obtain ⟨W0, hW0⟩ : ∃ W0, W0 = ((w.alloc (.cells #[.int .i64 m, .int .i64 d] 29)).alloc (.cells #[.int .i64 i, .int .i64 dy, .int .i64 s, .int .i64 n, .int .i64 x] 46)).alloc (.cells #[.int .i64 0, .int .i64 0, .bool false] 82) := ⟨_, rfl⟩
  have k0 : Kept w W0 := by rw [hW0]; exact ((((Kept.refl _).alloc _).alloc _).alloc _)
  have c00 : W0.cell? ⟨w.heap.size, 0, none⟩ = some (.int .i64 m) := by rw [hW0]; exact cellOld _ (cellOld _ (cellNew (by simp) rfl))
  have c01 : W0.cell? ⟨w.heap.size, 1, none⟩ = some (.int .i64 d) := by rw [hW0]; exact cellOld _ (cellOld _ (cellNew (by simp) rfl))
  have c10 : W0.cell? ⟨w.heap.size + 1, 0, none⟩ = some (.int .i64 i) := by rw [hW0]; exact cellOld _ (cellNew (by simp) rfl)
  have c11 : W0.cell? ⟨w.heap.size + 1, 1, none⟩ = some (.int .i64 dy) := by rw [hW0]; exact cellOld _ (cellNew (by simp) rfl)
  have c12 : W0.cell? ⟨w.heap.size + 1, 2, none⟩ = some (.int .i64 s) := by rw [hW0]; exact cellOld _ (cellNew (by simp) rfl)
  have c13 : W0.cell? ⟨w.heap.size + 1, 3, none⟩ = some (.int .i64 n) := by rw [hW0]; exact cellOld _ (cellNew (by simp) rfl)
  have c14 : W0.cell? ⟨w.heap.size + 1, 4, none⟩ = some (.int .i64 x) := by rw [hW0]; exact cellOld _ (cellNew (by simp) rfl)
  have c20 : W0.cell? ⟨w.heap.size + 1 + 1, 0, none⟩ = some (.int .i64 0) := by rw [hW0]; exact cellNew (by simp) rfl
  have f20 : W0.frozen? ⟨w.heap.size + 1 + 1, 0, none⟩ = false := by rw [hW0]; simp [go_sem]
  have c21 : W0.cell? ⟨w.heap.size + 1 + 1, 1, none⟩ = some (.int .i64 0) := by rw [hW0]; exact cellNew (by simp) rfl
  have f21 : W0.frozen? ⟨w.heap.size + 1 + 1, 1, none⟩ = false := by rw [hW0]; simp [go_sem]
  have c22 : W0.cell? ⟨w.heap.size + 1 + 1, 2, none⟩ = some (.bool false) := by rw [hW0]; exact cellNew (by simp) rfl
  have f22 : W0.frozen? ⟨w.heap.size + 1 + 1, 2, none⟩ = false := by rw [hW0]; simp [go_sem]
  have BR : RowKit.Hid (∀ W, Kept W0 W → W.cell? ⟨w.heap.size, 0, none⟩ = some (.int .i64 m) ∧ W.cell? ⟨w.heap.size, 1, none⟩ = some (.int .i64 d) ∧ W.cell? ⟨w.heap.size + 1, 0, none⟩ = some (.int .i64 i) ∧ W.cell? ⟨w.heap.size + 1, 1, none⟩ = some (.int .i64 dy) ∧ W.cell? ⟨w.heap.size + 1, 2, none⟩ = some (.int .i64 s) ∧ W.cell? ⟨w.heap.size + 1, 3, none⟩ = some (.int .i64 n) ∧ W.cell? ⟨w.heap.size + 1, 4, none⟩ = some (.int .i64 x) ∧ W.cell? ⟨w.heap.size + 1 + 1, 0, none⟩ = some (.int .i64 0) ∧ W.frozen? ⟨w.heap.size + 1 + 1, 0, none⟩ = false ∧ W.cell? ⟨w.heap.size + 1 + 1, 1, none⟩ = some (.int .i64 0) ∧ W.frozen? ⟨w.heap.size + 1 + 1, 1, none⟩ = false ∧ W.cell? ⟨w.heap.size + 1 + 1, 2, none⟩ = some (.bool false) ∧ W.frozen? ⟨w.heap.size + 1 + 1, 2, none⟩ = false) := Lib.hid (fun W hW => ⟨(hW.cells _ _ (cell_lt c00)).trans c00, (hW.cells _ _ (cell_lt c01)).trans c01, (hW.cells _ _ (cell_lt c10)).trans c10, (hW.cells _ _ (cell_lt c11)).trans c11, (hW.cells _ _ (cell_lt c12)).trans c12, (hW.cells _ _ (cell_lt c13)).trans c13, (hW.cells _ _ (cell_lt c14)).trans c14, (hW.cells _ _ (cell_lt c20)).trans c20, (hW.frozens _ _ (cell_lt c20)).trans f20, (hW.cells _ _ (cell_lt c21)).trans c21, (hW.frozens _ _ (cell_lt c21)).trans f21, (hW.cells _ _ (cell_lt c22)).trans c22, (hW.frozens _ _ (cell_lt c22)).trans f22⟩)
  have Z0 : W0.heap.size = w.heap.size + 1 + 1 + 1 := by rw [hW0]; simp
  have ZZ := Lib.hid Z0
  have HW := Lib.hid hW0
  have K0 := Lib.hid k0
  clear hW0 k0 Z0
  have kk := Kept.refl W0
  have b0 := cell_lt c00
  have b1 := cell_lt c10
  have b2 := cell_lt c20
  obtain ⟨y0, hy0⟩ : ∃ y, y = spL (leastOf d n) (mostOf m (n + x)) := ⟨_, rfl⟩
  obtain ⟨y1, hy1⟩ : ∃ y, y = spH (leastOf d n) (mostOf m (n + x)) := ⟨_, rfl⟩
  obtain ⟨y2, hy2⟩ : ∃ y, y = spS (leastOf d n) (mostOf m (n + x)) := ⟨_, rfl⟩
  have HC : RowKit.Hid (∀ W, Kept W0 W → Calls Tryd.prog 58 #[.agg #[.int .i64 m, .int .i64 d], .int .i64 n, .int .i64 (n + x)] W fun e w' => e = .returned (.agg #[.int .i64 y0, .int .i64 y1, .bool y2]) ∧ Kept W w') := Lib.hid (fun W hW => by
    rw [hy0, hy1, hy2]; exact allowed_any m d n (n + x) hm hm1 hd hd1 (by omega) W)
  rw [← hy0, ← hy1, ← hy2]
  clear hy0 hy1 hy2
  go_enter Tryd.func28, Tryd.ntmps28
  go_upto_region 1 with (fail)
  rw [← HW.out]
  go_wp2_with (first
        | (go_at_call 58; refine (HC.out _ kk).mono ?_; rintro e w1 ⟨rfl, hk⟩; replace kk := (by first | with_reducible exact kk.trans hk | with_reducible exact (kk.alloc _).trans hk | with_reducible exact kk.drew.trans hk | with_reducible exact (kk.drew.alloc _).trans hk | with_reducible exact (kk.alloc _).drew.trans hk | with_reducible exact ((kk.alloc _).alloc _).trans hk | with_reducible exact ((kk.drew.alloc _).alloc _).trans hk | fail); obtain ⟨c00, c01, c10, c11, c12, c13, c14, c20, f20, c21, f21, c22, f22⟩ := BR.out _ kk; have b0 := cell_lt c00; have b1 := cell_lt c10; have b2 := cell_lt c20)
        | fail)
  refine bodyPost_ret (v := .agg #[.int .i64 y0, .int .i64 y1, .bool y2]) (by simp [results, Tryd.results28, go_sem, c20, c21, c22]) rfl ⟨rfl, ?_⟩
  exact (((K0.out.trans kk).setCell (by simp; try omega) _).setCell (by simp; try omega) _).setCell (by simp; try omega) _

end Go.Proofs.YtologmoanaccpaaDoor.Tly
