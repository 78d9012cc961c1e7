/- span.plus; what Sum defers -/
import Derived.Test.YtjaicilnlgjdcaaVm
namespace Go.Proofs.Ytjaicilnlgjdcaa
set_option linter.all false
open Go.RowKit

def limPanic : List PanicEntry := [{ v := .iface 26 (.int .i64 2), recovered := false }]
set_option maxRecDepth 100000 in
set_option maxHeartbeats 2000000 in
theorem plus_ok (a b : Int) (s : Bool) (c d : Int) (t : Bool) (ha : 0 ≤ a ∧ a ≤ 100000000) (hb : 0 ≤ b ∧ b ≤ 100000000) (hc : 0 ≤ c ∧ c ≤ 100000000) (hd : 0 ≤ d ∧ d ≤ 100000000) (h1 : b + d ≤ 100000000) (h2 : a + c ≤ b + d) (w : World) :
    Calls Try.prog 82 #[.agg #[.int .i64 a, .int .i64 b, .bool s], .agg #[.int .i64 c, .int .i64 d, .bool t]] w fun e w' => e = .returned (.agg #[.int .i64 (a + c), .int .i64 (b + d), .bool true]) ∧ Kept w w' := by
  obtain ⟨W0, hW0⟩ : ∃ W0, W0 = ((w.alloc (.cells #[.int .i64 a, .int .i64 b, .bool s] 83)).alloc (.cells #[.int .i64 c, .int .i64 d, .bool t] 83)).alloc (.cells #[.int .i64 0, .int .i64 0, .bool false] 83) := ⟨_, rfl⟩
  have k0 : Kept w W0 := by rw [hW0]; exact ((((Kept.refl _).alloc _).alloc _).alloc _)
  have c00 : W0.cell? ⟨w.heap.size, 0, none⟩ = some (.int .i64 a) := by rw [hW0]; exact cellOld _ (cellOld _ (cellNew (by simp) rfl))
  have c01 : W0.cell? ⟨w.heap.size, 1, none⟩ = some (.int .i64 b) := by rw [hW0]; exact cellOld _ (cellOld _ (cellNew (by simp) rfl))
  have c02 : W0.cell? ⟨w.heap.size, 2, none⟩ = some (.bool s) := by rw [hW0]; exact cellOld _ (cellOld _ (cellNew (by simp) rfl))
  have c10 : W0.cell? ⟨w.heap.size + 1, 0, none⟩ = some (.int .i64 c) := by rw [hW0]; exact cellOld _ (cellNew (by simp) rfl)
  have c11 : W0.cell? ⟨w.heap.size + 1, 1, none⟩ = some (.int .i64 d) := by rw [hW0]; exact cellOld _ (cellNew (by simp) rfl)
  have c12 : W0.cell? ⟨w.heap.size + 1, 2, none⟩ = some (.bool t) := by rw [hW0]; exact cellOld _ (cellNew (by simp) rfl)
  have c20 : W0.cell? ⟨w.heap.size + 1 + 1, 0, none⟩ = some (.int .i64 0) := by rw [hW0]; exact cellNew (by simp) rfl
  have f20 : W0.frozen? ⟨w.heap.size + 1 + 1, 0, none⟩ = false := by rw [hW0]; simp [go_sem]
  have c21 : W0.cell? ⟨w.heap.size + 1 + 1, 1, none⟩ = some (.int .i64 0) := by rw [hW0]; exact cellNew (by simp) rfl
  have f21 : W0.frozen? ⟨w.heap.size + 1 + 1, 1, none⟩ = false := by rw [hW0]; simp [go_sem]
  have c22 : W0.cell? ⟨w.heap.size + 1 + 1, 2, none⟩ = some (.bool false) := by rw [hW0]; exact cellNew (by simp) rfl
  have f22 : W0.frozen? ⟨w.heap.size + 1 + 1, 2, none⟩ = false := by rw [hW0]; simp [go_sem]
  have BR : RowKit.Hid (∀ W, Kept W0 W → W.cell? ⟨w.heap.size, 0, none⟩ = some (.int .i64 a) ∧ W.cell? ⟨w.heap.size, 1, none⟩ = some (.int .i64 b) ∧ W.cell? ⟨w.heap.size, 2, none⟩ = some (.bool s) ∧ W.cell? ⟨w.heap.size + 1, 0, none⟩ = some (.int .i64 c) ∧ W.cell? ⟨w.heap.size + 1, 1, none⟩ = some (.int .i64 d) ∧ W.cell? ⟨w.heap.size + 1, 2, none⟩ = some (.bool t) ∧ W.cell? ⟨w.heap.size + 1 + 1, 0, none⟩ = some (.int .i64 0) ∧ W.frozen? ⟨w.heap.size + 1 + 1, 0, none⟩ = false ∧ W.cell? ⟨w.heap.size + 1 + 1, 1, none⟩ = some (.int .i64 0) ∧ W.frozen? ⟨w.heap.size + 1 + 1, 1, none⟩ = false ∧ W.cell? ⟨w.heap.size + 1 + 1, 2, none⟩ = some (.bool false) ∧ W.frozen? ⟨w.heap.size + 1 + 1, 2, none⟩ = false) := Lib.hid (fun W hW => ⟨(hW.cells _ _ (cell_lt c00)).trans c00, (hW.cells _ _ (cell_lt c01)).trans c01, (hW.cells _ _ (cell_lt c02)).trans c02, (hW.cells _ _ (cell_lt c10)).trans c10, (hW.cells _ _ (cell_lt c11)).trans c11, (hW.cells _ _ (cell_lt c12)).trans c12, (hW.cells _ _ (cell_lt c20)).trans c20, (hW.frozens _ _ (cell_lt c20)).trans f20, (hW.cells _ _ (cell_lt c21)).trans c21, (hW.frozens _ _ (cell_lt c21)).trans f21, (hW.cells _ _ (cell_lt c22)).trans c22, (hW.frozens _ _ (cell_lt c22)).trans f22⟩)
  have Z0 : W0.heap.size = w.heap.size + 1 + 1 + 1 := by rw [hW0]; simp
  have ZZ := Lib.hid Z0
  have HW := Lib.hid hW0
  have K0 := Lib.hid k0
  clear hW0 k0 Z0
  have kk := Kept.refl W0
  have b0 := cell_lt c00
  have b1 := cell_lt c10
  have b2 := cell_lt c20
  have hw1 : IntKind.i64.wrap (b + d) = b + d := IntWalk.i64_in _ (by omega)
  have hw2 : IntKind.i64.wrap (a + c) = a + c := IntWalk.i64_in _ (by omega)
  obtain ⟨u, hu⟩ : ∃ u, u = a + c := ⟨_, rfl⟩
  obtain ⟨v, hv⟩ : ∃ v, v = b + d := ⟨_, rfl⟩
  have HC : RowKit.Hid (∀ W, Calls Try.prog 81 #[.int .i64 (a + c), .int .i64 (b + d)] W fun e w' => e = .returned (.agg #[.int .i64 (a + c), .int .i64 (b + d), .bool true]) ∧ Kept W w') := Lib.hid (fun W => (to_any (a + c) (b + d) W).mono fun _ _ ⟨he, hk⟩ => ⟨by rw [he]; simp [spL, spH, spS, h2], hk⟩)
  go_enter Try.func82, Try.ntmps82
  go_upto_region 1 with (fail)
  rw [← HW.out]
  go_wp2_with (first
        | (go_at_call 81; refine (HC.out _).mono ?_; rintro e w1 ⟨rfl, hk⟩; replace kk := (by first | with_reducible exact kk.trans hk | with_reducible exact (kk.alloc _).trans hk | with_reducible exact kk.drew.trans hk | with_reducible exact (kk.drew.alloc _).trans hk | with_reducible exact (kk.alloc _).drew.trans hk | with_reducible exact ((kk.alloc _).alloc _).trans hk | with_reducible exact ((kk.drew.alloc _).alloc _).trans hk | fail); obtain ⟨c00, c01, c02, c10, c11, c12, c20, f20, c21, f21, c22, f22⟩ := BR.out _ kk; have b0 := cell_lt c00; have b1 := cell_lt c10; have b2 := cell_lt c20)
        | fail)
  refine bodyPost_ret (v := .agg #[.int .i64 (a + c), .int .i64 (b + d), .bool true]) (by simp [results, Try.results82, go_sem, c20, c21, c22]) rfl ⟨rfl, ?_⟩
  exact (((K0.out.trans kk).setCell (by simp; try omega) _).setCell (by simp; try omega) _).setCell (by simp; try omega) _
set_option maxRecDepth 100000 in
set_option maxHeartbeats 2000000 in
theorem plus_lim (a b : Int) (s : Bool) (c d : Int) (t : Bool) (hb : 0 ≤ b ∧ b ≤ 100000000) (hd : 0 ≤ d ∧ d ≤ 100000000) (h1 : 100000000 < b + d) (w : World) :
    Calls Try.prog 82 #[.agg #[.int .i64 a, .int .i64 b, .bool s], .agg #[.int .i64 c, .int .i64 d, .bool t]] w fun e w' => e = .panicked limPanic ∧ Kept w w' := by
  have hw1 : IntKind.i64.wrap (b + d) = b + d := IntWalk.i64_in _ (by omega)
  go_enter Try.func82, Try.ntmps82
  go_wp2
  exact ⟨rfl, rfl, (((Kept.refl w).alloc _).alloc _).alloc _⟩

theorem catch_idle (p q : Addr) (w : World) :
    CallsD Try.prog 79 #[.pointer (some p), .pointer (some q)] .returning w fun e u' w' => e = .returned (.tuple #[]) ∧ u' = .returning ∧ w' = w := by
  refine callsD_of_wpS Try.func79 rfl fun c₀ cs hu => ?_
  apply wpS_seq
  apply wpS_region
  simp [wpOpsS, go_sem, recoverD, hu, Try.ntmps79, Exit.thenS]
  refine wpS_cond (t := false) (by simp [Act.eval, Array.replicate]) ?_
  simp only [Bool.false_eq_true, if_false]
  refine wpS_of_wp (wp_skip ?_)
  cases c₀
  simp_all [bodyPostS, results, Try.results79]
theorem catch_panicking (b c : Nat) (u0 u1 u2 u3 : Value) (u : TypeId) (pv : Value) (older : List PanicEntry) (w : World) (hbc : b ≠ c) (h0 : w.cell? ⟨b, 0, none⟩ = some u0) (h1 : w.cell? ⟨b, 1, none⟩ = some u1) (h3 : w.cell? ⟨b, 2, none⟩ = some u3) (h2 : w.cell? ⟨c, 0, none⟩ = some u2)
    (f0 : w.frozen? ⟨b, 0, none⟩ = false) (f1 : w.frozen? ⟨b, 1, none⟩ = false) (f3 : w.frozen? ⟨b, 2, none⟩ = false) (f2 : w.frozen? ⟨c, 0, none⟩ = false) :
    CallsD Try.prog 79 #[.pointer (some ⟨b, 0, none⟩), .pointer (some ⟨c, 0, none⟩)] (.panicking ({ v := .iface u pv, recovered := false } :: older)) w fun e u' w' =>
      e = .returned (.tuple #[]) ∧ u' = .panicking ({ v := .iface u pv, recovered := true } :: older) ∧ w' = (((w.setCell ⟨b, 0, none⟩ (.int .i64 0)).setCell ⟨b, 1, none⟩ (.int .i64 0)).setCell ⟨b, 2, none⟩ (.bool false)).setCell ⟨c, 0, none⟩ (.int .i64 2) := by
  refine callsD_of_wpS Try.func79 rfl fun c₀ cs hu => ?_
  apply wpS_seq
  apply wpS_region
  simp [wpOpsS, go_sem, recoverD, hu, Try.ntmps79, Exit.thenS]
  refine wpS_cond (t := true) (by simp [Act.eval, Array.replicate]) ?_
  simp only [if_true]
  apply wpS_region
  simp [wpOpsS, go_sem, h0, h1, h2, h3, f0, f1, f2, f3, bodyPostS, results, Try.results79]
end Go.Proofs.Ytjaicilnlgjdcaa
