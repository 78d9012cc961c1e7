/- intervals: Both, Less -/
import Derived.Test.YtdeokdlkjgpffaaGreatDoorUd
namespace Go.Proofs.YtdeokdlkjgpffaaGreatDoor
set_option linter.all false
open Go.RowKit

def bothI (a b : Int) (s : Bool) (c d : Int) (t : Bool) : Int × Int × Bool := if empB a b s = true ∨ empB c d t = true then (0, 0, false) else spI (max a c) (min b d)
def lessI (a b : Int) (s : Bool) (c d : Int) (t : Bool) : Int × Int × Bool := if empB a b s = true ∨ empB c d t = true then (0, 0, false) else spI (max (a - d) 0) (b - c)
def bothX (a b : Int) (s : Bool) (c d : Int) (t : Bool) : Int × Int × Bool := if validB a b s = true ∧ validB c d t = true then bothI a b s c d t else (0, 0, false)
def lessX (a b : Int) (s : Bool) (c d : Int) (t : Bool) : Int × Int × Bool := if validB a b s = true ∧ validB c d t = true then lessI a b s c d t else (0, 0, false)
theorem valid_bd {a b : Int} {s : Bool} (h : validB a b s = true) : 0 ≤ a ∧ a ≤ 100000000 ∧ 0 ≤ b ∧ b ≤ 100000000 ∧ a ≤ b := by
  unfold validB empB at h
  simp only [Bool.or_eq_true, Bool.and_eq_true, decide_eq_true_eq, inB_iff] at h
  omega
theorem empty_b (a b : Int) (s r : Bool) (h : empB a b s = r) (w : World) :
    Calls Tryz.prog 61 #[.agg #[.int .i64 a, .int .i64 b, .bool s]] w fun e w' => e = .returned (.bool r) ∧ Kept w w' := by rw [← h]; exact empty_any a b s w
theorem valid_b (a b : Int) (s r : Bool) (h : validB a b s = r) (w : World) :
    Calls Tryz.prog 60 #[.agg #[.int .i64 a, .int .i64 b, .bool s]] w fun e w' => e = .returned (.bool r) ∧ Kept w w' := by rw [← h]; exact spanValid_any a b s w
theorem tripV {p : Int × Int × Bool} {x y : Int} {z : Bool} (h : p = (x, y, z)) : (.agg #[.int .i64 p.1, .int .i64 p.2.1, .bool p.2.2] : Value) = .agg #[.int .i64 x, .int .i64 y, .bool z] := by rw [h]

set_option maxRecDepth 100000 in
set_option maxHeartbeats 2000000 in
theorem spanBoth_any (a b : Int) (s : Bool) (c d : Int) (t : Bool) (w : World) :
    Calls Tryz.prog 41 #[.agg #[.int .i64 a, .int .i64 b, .bool s], .agg #[.int .i64 c, .int .i64 d, .bool t]] w fun e w' => e = .returned (.agg #[.int .i64 (bothI a b s c d t).1, .int .i64 (bothI a b s c d t).2.1, .bool (bothI a b s c d t).2.2]) ∧ Kept w w' := by
  obtain ⟨W0, hW0⟩ : ∃ W0, W0 = ((w.alloc (.cells #[.int .i64 a, .int .i64 b, .bool s] 68)).alloc (.cells #[.int .i64 c, .int .i64 d, .bool t] 68)).alloc (.cells #[.int .i64 0, .int .i64 0, .bool false] 68) := ⟨_, rfl⟩
  have k0 : Kept w W0 := by rw [hW0]; exact ((((Kept.refl _).alloc _).alloc _).alloc _)
  have c00 : W0.cell? ⟨w.heap.size, 0, none⟩ = some (.int .i64 a) := by rw [hW0]; exact cellOld _ (cellOld _ (cellNew (by simp) rfl))
  have c01 : W0.cell? ⟨w.heap.size, 1, none⟩ = some (.int .i64 b) := by rw [hW0]; exact cellOld _ (cellOld _ (cellNew (by simp) rfl))
  have c02 : W0.cell? ⟨w.heap.size, 2, none⟩ = some (.bool s) := by rw [hW0]; exact cellOld _ (cellOld _ (cellNew (by simp) rfl))
  have c10 : W0.cell? ⟨w.heap.size + 1, 0, none⟩ = some (.int .i64 c) := by rw [hW0]; exact cellOld _ (cellNew (by simp) rfl)
  have c11 : W0.cell? ⟨w.heap.size + 1, 1, none⟩ = some (.int .i64 d) := by rw [hW0]; exact cellOld _ (cellNew (by simp) rfl)
  have c12 : W0.cell? ⟨w.heap.size + 1, 2, none⟩ = some (.bool t) := by rw [hW0]; exact cellOld _ (cellNew (by simp) rfl)
  have c20 : W0.cell? ⟨w.heap.size + 1 + 1, 0, none⟩ = some (.int .i64 0) := by rw [hW0]; exact cellNew (by simp) rfl
  have f20 : W0.frozen? ⟨w.heap.size + 1 + 1, 0, none⟩ = false := by rw [hW0]; simp [go_sem]
  have c21 : W0.cell? ⟨w.heap.size + 1 + 1, 1, none⟩ = some (.int .i64 0) := by rw [hW0]; exact cellNew (by simp) rfl
  have f21 : W0.frozen? ⟨w.heap.size + 1 + 1, 1, none⟩ = false := by rw [hW0]; simp [go_sem]
  have c22 : W0.cell? ⟨w.heap.size + 1 + 1, 2, none⟩ = some (.bool false) := by rw [hW0]; exact cellNew (by simp) rfl
  have f22 : W0.frozen? ⟨w.heap.size + 1 + 1, 2, none⟩ = false := by rw [hW0]; simp [go_sem]
  have BR : RowKit.Hid (∀ W, Kept W0 W → W.cell? ⟨w.heap.size, 0, none⟩ = some (.int .i64 a) ∧ W.cell? ⟨w.heap.size, 1, none⟩ = some (.int .i64 b) ∧ W.cell? ⟨w.heap.size, 2, none⟩ = some (.bool s) ∧ W.cell? ⟨w.heap.size + 1, 0, none⟩ = some (.int .i64 c) ∧ W.cell? ⟨w.heap.size + 1, 1, none⟩ = some (.int .i64 d) ∧ W.cell? ⟨w.heap.size + 1, 2, none⟩ = some (.bool t) ∧ W.cell? ⟨w.heap.size + 1 + 1, 0, none⟩ = some (.int .i64 0) ∧ W.frozen? ⟨w.heap.size + 1 + 1, 0, none⟩ = false ∧ W.cell? ⟨w.heap.size + 1 + 1, 1, none⟩ = some (.int .i64 0) ∧ W.frozen? ⟨w.heap.size + 1 + 1, 1, none⟩ = false ∧ W.cell? ⟨w.heap.size + 1 + 1, 2, none⟩ = some (.bool false) ∧ W.frozen? ⟨w.heap.size + 1 + 1, 2, none⟩ = false) := Lib.hid (fun W hW => ⟨(hW.cells _ _ (cell_lt c00)).trans c00, (hW.cells _ _ (cell_lt c01)).trans c01, (hW.cells _ _ (cell_lt c02)).trans c02, (hW.cells _ _ (cell_lt c10)).trans c10, (hW.cells _ _ (cell_lt c11)).trans c11, (hW.cells _ _ (cell_lt c12)).trans c12, (hW.cells _ _ (cell_lt c20)).trans c20, (hW.frozens _ _ (cell_lt c20)).trans f20, (hW.cells _ _ (cell_lt c21)).trans c21, (hW.frozens _ _ (cell_lt c21)).trans f21, (hW.cells _ _ (cell_lt c22)).trans c22, (hW.frozens _ _ (cell_lt c22)).trans f22⟩)
  have Z0 : W0.heap.size = w.heap.size + 1 + 1 + 1 := by rw [hW0]; simp
  have ZZ := Lib.hid Z0
  have HW := Lib.hid hW0
  have K0 := Lib.hid k0
  clear hW0 k0 Z0
  have kk := Kept.refl W0
  have b0 := cell_lt c00
  have b1 := cell_lt c10
  have b2 := cell_lt c20
  rcases h1 : empB a b s with _ | _
  · rcases h2 : empB c d t with _ | _
    · have HS : RowKit.Hid (bothI a b s c d t = spI (max a c) (min b d)) := Lib.hid (by rw [bothI, if_neg (by simp [h1, h2])])
      rw [show (.agg #[.int .i64 (bothI a b s c d t).1, .int .i64 (bothI a b s c d t).2.1, .bool (bothI a b s c d t).2.2] : Value) = .agg #[.int .i64 (spI (max a c) (min b d)).1, .int .i64 (spI (max a c) (min b d)).2.1, .bool (spI (max a c) (min b d)).2.2] by rw [HS.out]]
      have HE1 := Lib.hid h1
      have HE2 := Lib.hid h2
      clear h1 h2
      obtain ⟨u, hu⟩ : ∃ u, u = max a c := ⟨_, rfl⟩
      obtain ⟨v, hv⟩ : ∃ v, v = min b d := ⟨_, rfl⟩
      rw [← hu, ← hv]
      obtain ⟨x, hx⟩ : ∃ x, x = spI u v := ⟨_, rfl⟩
      have HC : RowKit.Hid (∀ W, Calls Tryz.prog 62 #[.int .i64 u, .int .i64 v] W fun e w' => e = .returned (.agg #[.int .i64 x.1, .int .i64 x.2.1, .bool x.2.2]) ∧ Kept W w') := Lib.hid (fun W => by rw [hx]; exact to_any u v W)
      rw [← hx]
      clear hx
      rcases Int.lt_or_le a c with h3 | h3 <;> rcases Int.lt_or_le d b with h4 | h4
      case' inl.inl => replace hu : u = c := by omega
      case' inl.inl => replace hv : v = d := by omega
      case' inl.inr => replace hu : u = c := by omega
      case' inl.inr => replace hv : v = b := by omega
      case' inr.inl => replace hu : u = a := by omega
      case' inr.inl => replace hv : v = d := by omega
      case' inr.inr => replace hu : u = a := by omega
      case' inr.inr => replace hv : v = b := by omega
      all_goals
        subst hu hv
        go_enter Tryz.func41, Tryz.ntmps41
        go_upto_region 1 with (fail)
        rw [← HW.out]
        go_wp2_with (first
        | (go_at_call 61; (with_reducible refine (empty_b _ _ _ _ HE1.out _).mono ?_); rintro e w1 ⟨rfl, hk⟩; replace kk := (by first | with_reducible exact kk.trans hk | with_reducible exact (kk.alloc _).trans hk | with_reducible exact kk.drew.trans hk | with_reducible exact (kk.drew.alloc _).trans hk | with_reducible exact (kk.alloc _).drew.trans hk | with_reducible exact ((kk.alloc _).alloc _).trans hk | with_reducible exact ((kk.drew.alloc _).alloc _).trans hk | fail); obtain ⟨c00, c01, c02, c10, c11, c12, c20, f20, c21, f21, c22, f22⟩ := BR.out _ kk; have b0 := cell_lt c00; have b1 := cell_lt c10; have b2 := cell_lt c20)
        | (go_at_call 61; (with_reducible refine (empty_b _ _ _ _ HE2.out _).mono ?_); rintro e w1 ⟨rfl, hk⟩; replace kk := (by first | with_reducible exact kk.trans hk | with_reducible exact (kk.alloc _).trans hk | with_reducible exact kk.drew.trans hk | with_reducible exact (kk.drew.alloc _).trans hk | with_reducible exact (kk.alloc _).drew.trans hk | with_reducible exact ((kk.alloc _).alloc _).trans hk | with_reducible exact ((kk.drew.alloc _).alloc _).trans hk | fail); obtain ⟨c00, c01, c02, c10, c11, c12, c20, f20, c21, f21, c22, f22⟩ := BR.out _ kk; have b0 := cell_lt c00; have b1 := cell_lt c10; have b2 := cell_lt c20)
        | (go_at_call 62; refine (HC.out _).mono ?_; rintro e w1 ⟨rfl, hk⟩; replace kk := (by first | with_reducible exact kk.trans hk | with_reducible exact (kk.alloc _).trans hk | with_reducible exact kk.drew.trans hk | with_reducible exact (kk.drew.alloc _).trans hk | with_reducible exact (kk.alloc _).drew.trans hk | with_reducible exact ((kk.alloc _).alloc _).trans hk | with_reducible exact ((kk.drew.alloc _).alloc _).trans hk | fail); obtain ⟨c00, c01, c02, c10, c11, c12, c20, f20, c21, f21, c22, f22⟩ := BR.out _ kk; have b0 := cell_lt c00; have b1 := cell_lt c10; have b2 := cell_lt c20)
        | fail)
        refine bodyPost_ret (v := .agg #[.int .i64 x.1, .int .i64 x.2.1, .bool x.2.2]) (by simp [results, Tryz.results41, go_sem, c20, c21, c22]) rfl ⟨rfl, ?_⟩
        exact (((K0.out.trans kk).setCell (by simp; try omega) _).setCell (by simp; try omega) _).setCell (by simp; try omega) _
    · have HS : RowKit.Hid (bothI a b s c d t = (0, 0, false)) := Lib.hid (by rw [bothI, if_pos (by simp [h2])])
      rw [tripV HS.out]
      have HE1 := Lib.hid h1
      have HE2 := Lib.hid h2
      clear h1 h2
      go_enter Tryz.func41, Tryz.ntmps41
      go_upto_region 1 with (fail)
      rw [← HW.out]
      go_wp2_with (first
        | (go_at_call 61; (with_reducible refine (empty_b _ _ _ _ HE1.out _).mono ?_); rintro e w1 ⟨rfl, hk⟩; replace kk := (by first | with_reducible exact kk.trans hk | with_reducible exact (kk.alloc _).trans hk | with_reducible exact kk.drew.trans hk | with_reducible exact (kk.drew.alloc _).trans hk | with_reducible exact (kk.alloc _).drew.trans hk | with_reducible exact ((kk.alloc _).alloc _).trans hk | with_reducible exact ((kk.drew.alloc _).alloc _).trans hk | fail); obtain ⟨c00, c01, c02, c10, c11, c12, c20, f20, c21, f21, c22, f22⟩ := BR.out _ kk; have b0 := cell_lt c00; have b1 := cell_lt c10; have b2 := cell_lt c20)
        | (go_at_call 61; (with_reducible refine (empty_b _ _ _ _ HE2.out _).mono ?_); rintro e w1 ⟨rfl, hk⟩; replace kk := (by first | with_reducible exact kk.trans hk | with_reducible exact (kk.alloc _).trans hk | with_reducible exact kk.drew.trans hk | with_reducible exact (kk.drew.alloc _).trans hk | with_reducible exact (kk.alloc _).drew.trans hk | with_reducible exact ((kk.alloc _).alloc _).trans hk | with_reducible exact ((kk.drew.alloc _).alloc _).trans hk | fail); obtain ⟨c00, c01, c02, c10, c11, c12, c20, f20, c21, f21, c22, f22⟩ := BR.out _ kk; have b0 := cell_lt c00; have b1 := cell_lt c10; have b2 := cell_lt c20)
        | fail)
      refine bodyPost_ret (v := .agg #[.int .i64 0, .int .i64 0, .bool false]) (by simp [results, Tryz.results41, go_sem, c20, c21, c22]) rfl ⟨rfl, ?_⟩
      exact (((K0.out.trans kk).setCell (by simp; try omega) _).setCell (by simp; try omega) _).setCell (by simp; try omega) _
  · have HS : RowKit.Hid (bothI a b s c d t = (0, 0, false)) := Lib.hid (by rw [bothI, if_pos (by simp [h1])])
    rw [tripV HS.out]
    have HE1 := Lib.hid h1
    clear h1
    go_enter Tryz.func41, Tryz.ntmps41
    go_upto_region 1 with (fail)
    rw [← HW.out]
    go_wp2_with (first
        | (go_at_call 61; refine (empty_b _ _ _ _ HE1.out _).mono ?_; rintro e w1 ⟨rfl, hk⟩; replace kk := (by first | with_reducible exact kk.trans hk | with_reducible exact (kk.alloc _).trans hk | with_reducible exact kk.drew.trans hk | with_reducible exact (kk.drew.alloc _).trans hk | with_reducible exact (kk.alloc _).drew.trans hk | with_reducible exact ((kk.alloc _).alloc _).trans hk | with_reducible exact ((kk.drew.alloc _).alloc _).trans hk | fail); obtain ⟨c00, c01, c02, c10, c11, c12, c20, f20, c21, f21, c22, f22⟩ := BR.out _ kk; have b0 := cell_lt c00; have b1 := cell_lt c10; have b2 := cell_lt c20)
        | fail)
    refine bodyPost_ret (v := .agg #[.int .i64 0, .int .i64 0, .bool false]) (by simp [results, Tryz.results41, go_sem, c20, c21, c22]) rfl ⟨rfl, ?_⟩
    exact (((K0.out.trans kk).setCell (by simp; try omega) _).setCell (by simp; try omega) _).setCell (by simp; try omega) _

set_option maxRecDepth 100000 in
set_option maxHeartbeats 2000000 in
theorem joinedTwo_any (g : Nat) (x : Int × Int × Bool) (a b : Int) (s : Bool) (c d : Int) (t : Bool) (w : World) (eg : ∀ args w, (callFunc g args).run Tryz.prog w = .ok (.enter g args) w)
    (hg : validB a b s = true → validB c d t = true → ∀ W, Calls Tryz.prog g #[.agg #[.int .i64 a, .int .i64 b, .bool s], .agg #[.int .i64 c, .int .i64 d, .bool t]] W fun e w' => e = .returned (.agg #[.int .i64 (x).1, .int .i64 (x).2.1, .bool (x).2.2]) ∧ Kept W w') (hx : ¬ (validB a b s = true ∧ validB c d t = true) → x = (0, 0, false)) :
    Calls Tryz.prog 40 #[.agg #[.int .i64 a, .int .i64 b, .bool s], .agg #[.int .i64 c, .int .i64 d, .bool t], .func (.func g) #[] #[]] w fun e w' => e = .returned (.agg #[.int .i64 (x).1, .int .i64 (x).2.1, .bool (x).2.2]) ∧ Kept w w' := by
  obtain ⟨W0, hW0⟩ : ∃ W0, W0 = ((w.alloc (.cells #[.int .i64 a, .int .i64 b, .bool s] 42)).alloc (.cells #[.int .i64 c, .int .i64 d, .bool t] 42)).alloc (.cells #[.int .i64 0, .int .i64 0, .bool false] 42) := ⟨_, rfl⟩
  have k0 : Kept w W0 := by rw [hW0]; exact ((((Kept.refl _).alloc _).alloc _).alloc _)
  have c00 : W0.cell? ⟨w.heap.size, 0, none⟩ = some (.int .i64 a) := by rw [hW0]; exact cellOld _ (cellOld _ (cellNew (by simp) rfl))
  have c01 : W0.cell? ⟨w.heap.size, 1, none⟩ = some (.int .i64 b) := by rw [hW0]; exact cellOld _ (cellOld _ (cellNew (by simp) rfl))
  have c02 : W0.cell? ⟨w.heap.size, 2, none⟩ = some (.bool s) := by rw [hW0]; exact cellOld _ (cellOld _ (cellNew (by simp) rfl))
  have c10 : W0.cell? ⟨w.heap.size + 1, 0, none⟩ = some (.int .i64 c) := by rw [hW0]; exact cellOld _ (cellNew (by simp) rfl)
  have c11 : W0.cell? ⟨w.heap.size + 1, 1, none⟩ = some (.int .i64 d) := by rw [hW0]; exact cellOld _ (cellNew (by simp) rfl)
  have c12 : W0.cell? ⟨w.heap.size + 1, 2, none⟩ = some (.bool t) := by rw [hW0]; exact cellOld _ (cellNew (by simp) rfl)
  have c20 : W0.cell? ⟨w.heap.size + 1 + 1, 0, none⟩ = some (.int .i64 0) := by rw [hW0]; exact cellNew (by simp) rfl
  have f20 : W0.frozen? ⟨w.heap.size + 1 + 1, 0, none⟩ = false := by rw [hW0]; simp [go_sem]
  have c21 : W0.cell? ⟨w.heap.size + 1 + 1, 1, none⟩ = some (.int .i64 0) := by rw [hW0]; exact cellNew (by simp) rfl
  have f21 : W0.frozen? ⟨w.heap.size + 1 + 1, 1, none⟩ = false := by rw [hW0]; simp [go_sem]
  have c22 : W0.cell? ⟨w.heap.size + 1 + 1, 2, none⟩ = some (.bool false) := by rw [hW0]; exact cellNew (by simp) rfl
  have f22 : W0.frozen? ⟨w.heap.size + 1 + 1, 2, none⟩ = false := by rw [hW0]; simp [go_sem]
  have BR : RowKit.Hid (∀ W, Kept W0 W → W.cell? ⟨w.heap.size, 0, none⟩ = some (.int .i64 a) ∧ W.cell? ⟨w.heap.size, 1, none⟩ = some (.int .i64 b) ∧ W.cell? ⟨w.heap.size, 2, none⟩ = some (.bool s) ∧ W.cell? ⟨w.heap.size + 1, 0, none⟩ = some (.int .i64 c) ∧ W.cell? ⟨w.heap.size + 1, 1, none⟩ = some (.int .i64 d) ∧ W.cell? ⟨w.heap.size + 1, 2, none⟩ = some (.bool t) ∧ W.cell? ⟨w.heap.size + 1 + 1, 0, none⟩ = some (.int .i64 0) ∧ W.frozen? ⟨w.heap.size + 1 + 1, 0, none⟩ = false ∧ W.cell? ⟨w.heap.size + 1 + 1, 1, none⟩ = some (.int .i64 0) ∧ W.frozen? ⟨w.heap.size + 1 + 1, 1, none⟩ = false ∧ W.cell? ⟨w.heap.size + 1 + 1, 2, none⟩ = some (.bool false) ∧ W.frozen? ⟨w.heap.size + 1 + 1, 2, none⟩ = false) := Lib.hid (fun W hW => ⟨(hW.cells _ _ (cell_lt c00)).trans c00, (hW.cells _ _ (cell_lt c01)).trans c01, (hW.cells _ _ (cell_lt c02)).trans c02, (hW.cells _ _ (cell_lt c10)).trans c10, (hW.cells _ _ (cell_lt c11)).trans c11, (hW.cells _ _ (cell_lt c12)).trans c12, (hW.cells _ _ (cell_lt c20)).trans c20, (hW.frozens _ _ (cell_lt c20)).trans f20, (hW.cells _ _ (cell_lt c21)).trans c21, (hW.frozens _ _ (cell_lt c21)).trans f21, (hW.cells _ _ (cell_lt c22)).trans c22, (hW.frozens _ _ (cell_lt c22)).trans f22⟩)
  have Z0 : W0.heap.size = w.heap.size + 1 + 1 + 1 := by rw [hW0]; simp
  have ZZ := Lib.hid Z0
  have HW := Lib.hid hW0
  have K0 := Lib.hid k0
  clear hW0 k0 Z0
  have kk := Kept.refl W0
  have b0 := cell_lt c00
  have b1 := cell_lt c10
  have b2 := cell_lt c20
  rcases h1 : validB a b s with _ | _
  · rw [tripV (hx (by simp [h1]))]
    have HE1 := Lib.hid h1
    clear h1 hg hx
    go_enter Tryz.func40, Tryz.ntmps40
    go_upto_region 1 with (fail)
    rw [← HW.out]
    go_wp2_with (first
        | (go_at_call 60; (with_reducible refine (valid_b _ _ _ _ HE1.out _).mono ?_); rintro e w1 ⟨rfl, hk⟩; replace kk := (by first | with_reducible exact kk.trans hk | with_reducible exact (kk.alloc _).trans hk | with_reducible exact kk.drew.trans hk | with_reducible exact (kk.drew.alloc _).trans hk | with_reducible exact (kk.alloc _).drew.trans hk | with_reducible exact ((kk.alloc _).alloc _).trans hk | with_reducible exact ((kk.drew.alloc _).alloc _).trans hk | fail); obtain ⟨c00, c01, c02, c10, c11, c12, c20, f20, c21, f21, c22, f22⟩ := BR.out _ kk; have b0 := cell_lt c00; have b1 := cell_lt c10; have b2 := cell_lt c20)
        | fail)
    refine bodyPost_ret (v := .agg #[.int .i64 0, .int .i64 0, .bool false]) (by simp [results, Tryz.results40, go_sem, c20, c21, c22]) rfl ⟨rfl, ?_⟩
    exact (((K0.out.trans kk).setCell (by simp; try omega) _).setCell (by simp; try omega) _).setCell (by simp; try omega) _
  · rcases h2 : validB c d t with _ | _
    · rw [tripV (hx (by simp [h2]))]
      have HE1 := Lib.hid h1
      have HE2 := Lib.hid h2
      clear h1 h2 hg hx
      go_enter Tryz.func40, Tryz.ntmps40
      go_upto_region 1 with (fail)
      rw [← HW.out]
      go_wp2_with (first
        | (go_at_call 60; (with_reducible refine (valid_b _ _ _ _ HE1.out _).mono ?_); rintro e w1 ⟨rfl, hk⟩; replace kk := (by first | with_reducible exact kk.trans hk | with_reducible exact (kk.alloc _).trans hk | with_reducible exact kk.drew.trans hk | with_reducible exact (kk.drew.alloc _).trans hk | with_reducible exact (kk.alloc _).drew.trans hk | with_reducible exact ((kk.alloc _).alloc _).trans hk | with_reducible exact ((kk.drew.alloc _).alloc _).trans hk | fail); obtain ⟨c00, c01, c02, c10, c11, c12, c20, f20, c21, f21, c22, f22⟩ := BR.out _ kk; have b0 := cell_lt c00; have b1 := cell_lt c10; have b2 := cell_lt c20)
        | (go_at_call 60; (with_reducible refine (valid_b _ _ _ _ HE2.out _).mono ?_); rintro e w1 ⟨rfl, hk⟩; replace kk := (by first | with_reducible exact kk.trans hk | with_reducible exact (kk.alloc _).trans hk | with_reducible exact kk.drew.trans hk | with_reducible exact (kk.drew.alloc _).trans hk | with_reducible exact (kk.alloc _).drew.trans hk | with_reducible exact ((kk.alloc _).alloc _).trans hk | with_reducible exact ((kk.drew.alloc _).alloc _).trans hk | fail); obtain ⟨c00, c01, c02, c10, c11, c12, c20, f20, c21, f21, c22, f22⟩ := BR.out _ kk; have b0 := cell_lt c00; have b1 := cell_lt c10; have b2 := cell_lt c20)
        | fail)
      refine bodyPost_ret (v := .agg #[.int .i64 0, .int .i64 0, .bool false]) (by simp [results, Tryz.results40, go_sem, c20, c21, c22]) rfl ⟨rfl, ?_⟩
      exact (((K0.out.trans kk).setCell (by simp; try omega) _).setCell (by simp; try omega) _).setCell (by simp; try omega) _
    · have HG := Lib.hid (hg h1 h2)
      have HE1 := Lib.hid h1
      have HE2 := Lib.hid h2
      clear h1 h2 hg hx
      go_enter Tryz.func40, Tryz.ntmps40
      go_upto_region 1 with (fail)
      rw [← HW.out]
      go_wp2_with (first
        | (go_at_call 60; (with_reducible refine (valid_b _ _ _ _ HE1.out _).mono ?_); rintro e w1 ⟨rfl, hk⟩; replace kk := (by first | with_reducible exact kk.trans hk | with_reducible exact (kk.alloc _).trans hk | with_reducible exact kk.drew.trans hk | with_reducible exact (kk.drew.alloc _).trans hk | with_reducible exact (kk.alloc _).drew.trans hk | with_reducible exact ((kk.alloc _).alloc _).trans hk | with_reducible exact ((kk.drew.alloc _).alloc _).trans hk | fail); obtain ⟨c00, c01, c02, c10, c11, c12, c20, f20, c21, f21, c22, f22⟩ := BR.out _ kk; have b0 := cell_lt c00; have b1 := cell_lt c10; have b2 := cell_lt c20)
        | (go_at_call 60; (with_reducible refine (valid_b _ _ _ _ HE2.out _).mono ?_); rintro e w1 ⟨rfl, hk⟩; replace kk := (by first | with_reducible exact kk.trans hk | with_reducible exact (kk.alloc _).trans hk | with_reducible exact kk.drew.trans hk | with_reducible exact (kk.drew.alloc _).trans hk | with_reducible exact (kk.alloc _).drew.trans hk | with_reducible exact ((kk.alloc _).alloc _).trans hk | with_reducible exact ((kk.drew.alloc _).alloc _).trans hk | fail); obtain ⟨c00, c01, c02, c10, c11, c12, c20, f20, c21, f21, c22, f22⟩ := BR.out _ kk; have b0 := cell_lt c00; have b1 := cell_lt c10; have b2 := cell_lt c20)
        | (go_at_fn g; refine (HG.out _).mono ?_; rintro e w1 ⟨rfl, hk⟩; replace kk := (by first | with_reducible exact kk.trans hk | with_reducible exact (kk.alloc _).trans hk | with_reducible exact kk.drew.trans hk | with_reducible exact (kk.drew.alloc _).trans hk | with_reducible exact (kk.alloc _).drew.trans hk | with_reducible exact ((kk.alloc _).alloc _).trans hk | with_reducible exact ((kk.drew.alloc _).alloc _).trans hk | fail); obtain ⟨c00, c01, c02, c10, c11, c12, c20, f20, c21, f21, c22, f22⟩ := BR.out _ kk; have b0 := cell_lt c00; have b1 := cell_lt c10; have b2 := cell_lt c20)
        | fail)
      refine bodyPost_ret (v := .agg #[.int .i64 x.1, .int .i64 x.2.1, .bool x.2.2]) (by simp [results, Tryz.results40, go_sem, c20, c21, c22]) rfl ⟨rfl, ?_⟩
      exact (((K0.out.trans kk).setCell (by simp; try omega) _).setCell (by simp; try omega) _).setCell (by simp; try omega) _

theorem e85 : ∀ args w, (callFunc 41 args).run Tryz.prog w = .ok (.enter 41 args) w := enters_of Tryz.func41 (by kernel_rfl) rfl
set_option maxRecDepth 100000 in
theorem both_any (a b : Int) (s : Bool) (c d : Int) (t : Bool) (w : World) :
    Calls Tryz.prog 18 #[.agg #[.int .i64 a, .int .i64 b, .bool s], .agg #[.int .i64 c, .int .i64 d, .bool t]] w fun e w' => e = .returned (.agg #[.int .i64 (bothX a b s c d t).1, .int .i64 (bothX a b s c d t).2.1, .bool (bothX a b s c d t).2.2]) ∧ Kept w w' := by
  obtain ⟨W0, hW0⟩ : ∃ W0, W0 = ((w.alloc (.cells #[.int .i64 a, .int .i64 b, .bool s] 42)).alloc (.cells #[.int .i64 c, .int .i64 d, .bool t] 42)).alloc (.cells #[.int .i64 0, .int .i64 0, .bool false] 42) := ⟨_, rfl⟩
  have k0 : Kept w W0 := by rw [hW0]; exact ((((Kept.refl _).alloc _).alloc _).alloc _)
  have c00 : W0.cell? ⟨w.heap.size, 0, none⟩ = some (.int .i64 a) := by rw [hW0]; exact cellOld _ (cellOld _ (cellNew (by simp) rfl))
  have c01 : W0.cell? ⟨w.heap.size, 1, none⟩ = some (.int .i64 b) := by rw [hW0]; exact cellOld _ (cellOld _ (cellNew (by simp) rfl))
  have c02 : W0.cell? ⟨w.heap.size, 2, none⟩ = some (.bool s) := by rw [hW0]; exact cellOld _ (cellOld _ (cellNew (by simp) rfl))
  have c10 : W0.cell? ⟨w.heap.size + 1, 0, none⟩ = some (.int .i64 c) := by rw [hW0]; exact cellOld _ (cellNew (by simp) rfl)
  have c11 : W0.cell? ⟨w.heap.size + 1, 1, none⟩ = some (.int .i64 d) := by rw [hW0]; exact cellOld _ (cellNew (by simp) rfl)
  have c12 : W0.cell? ⟨w.heap.size + 1, 2, none⟩ = some (.bool t) := by rw [hW0]; exact cellOld _ (cellNew (by simp) rfl)
  have c20 : W0.cell? ⟨w.heap.size + 1 + 1, 0, none⟩ = some (.int .i64 0) := by rw [hW0]; exact cellNew (by simp) rfl
  have f20 : W0.frozen? ⟨w.heap.size + 1 + 1, 0, none⟩ = false := by rw [hW0]; simp [go_sem]
  have c21 : W0.cell? ⟨w.heap.size + 1 + 1, 1, none⟩ = some (.int .i64 0) := by rw [hW0]; exact cellNew (by simp) rfl
  have f21 : W0.frozen? ⟨w.heap.size + 1 + 1, 1, none⟩ = false := by rw [hW0]; simp [go_sem]
  have c22 : W0.cell? ⟨w.heap.size + 1 + 1, 2, none⟩ = some (.bool false) := by rw [hW0]; exact cellNew (by simp) rfl
  have f22 : W0.frozen? ⟨w.heap.size + 1 + 1, 2, none⟩ = false := by rw [hW0]; simp [go_sem]
  have BR : RowKit.Hid (∀ W, Kept W0 W → W.cell? ⟨w.heap.size, 0, none⟩ = some (.int .i64 a) ∧ W.cell? ⟨w.heap.size, 1, none⟩ = some (.int .i64 b) ∧ W.cell? ⟨w.heap.size, 2, none⟩ = some (.bool s) ∧ W.cell? ⟨w.heap.size + 1, 0, none⟩ = some (.int .i64 c) ∧ W.cell? ⟨w.heap.size + 1, 1, none⟩ = some (.int .i64 d) ∧ W.cell? ⟨w.heap.size + 1, 2, none⟩ = some (.bool t) ∧ W.cell? ⟨w.heap.size + 1 + 1, 0, none⟩ = some (.int .i64 0) ∧ W.frozen? ⟨w.heap.size + 1 + 1, 0, none⟩ = false ∧ W.cell? ⟨w.heap.size + 1 + 1, 1, none⟩ = some (.int .i64 0) ∧ W.frozen? ⟨w.heap.size + 1 + 1, 1, none⟩ = false ∧ W.cell? ⟨w.heap.size + 1 + 1, 2, none⟩ = some (.bool false) ∧ W.frozen? ⟨w.heap.size + 1 + 1, 2, none⟩ = false) := Lib.hid (fun W hW => ⟨(hW.cells _ _ (cell_lt c00)).trans c00, (hW.cells _ _ (cell_lt c01)).trans c01, (hW.cells _ _ (cell_lt c02)).trans c02, (hW.cells _ _ (cell_lt c10)).trans c10, (hW.cells _ _ (cell_lt c11)).trans c11, (hW.cells _ _ (cell_lt c12)).trans c12, (hW.cells _ _ (cell_lt c20)).trans c20, (hW.frozens _ _ (cell_lt c20)).trans f20, (hW.cells _ _ (cell_lt c21)).trans c21, (hW.frozens _ _ (cell_lt c21)).trans f21, (hW.cells _ _ (cell_lt c22)).trans c22, (hW.frozens _ _ (cell_lt c22)).trans f22⟩)
  have Z0 : W0.heap.size = w.heap.size + 1 + 1 + 1 := by rw [hW0]; simp
  have ZZ := Lib.hid Z0
  have HW := Lib.hid hW0
  have K0 := Lib.hid k0
  clear hW0 k0 Z0
  have kk := Kept.refl W0
  have b0 := cell_lt c00
  have b1 := cell_lt c10
  have b2 := cell_lt c20
  obtain ⟨x, hx⟩ : ∃ x, x = bothX a b s c d t := ⟨_, rfl⟩
  have HC : RowKit.Hid (∀ W, Calls Tryz.prog 40 #[.agg #[.int .i64 a, .int .i64 b, .bool s], .agg #[.int .i64 c, .int .i64 d, .bool t], .func (.func 41) #[] #[]] W fun e w' => e = .returned (.agg #[.int .i64 (x).1, .int .i64 (x).2.1, .bool (x).2.2]) ∧ Kept W w') := Lib.hid (fun W => joinedTwo_any 41 x a b s c d t W e85 (fun h1 h2 W => by rw [hx, bothX, if_pos ⟨h1, h2⟩]; exact spanBoth_any a b s c d t W) (fun h => by rw [hx, bothX, if_neg h]))
  rw [← hx]
  clear hx
  go_enter Tryz.func18, Tryz.ntmps18
  go_upto_region 1 with (fail)
  rw [← HW.out]
  go_wp2_with (first
        | (go_at_call 40; refine (HC.out _).mono ?_; rintro e w1 ⟨rfl, hk⟩; replace kk := (by first | with_reducible exact kk.trans hk | with_reducible exact (kk.alloc _).trans hk | with_reducible exact kk.drew.trans hk | with_reducible exact (kk.drew.alloc _).trans hk | with_reducible exact (kk.alloc _).drew.trans hk | with_reducible exact ((kk.alloc _).alloc _).trans hk | with_reducible exact ((kk.drew.alloc _).alloc _).trans hk | fail); obtain ⟨c00, c01, c02, c10, c11, c12, c20, f20, c21, f21, c22, f22⟩ := BR.out _ kk; have b0 := cell_lt c00; have b1 := cell_lt c10; have b2 := cell_lt c20)
        | fail)
  refine bodyPost_ret (v := .agg #[.int .i64 x.1, .int .i64 x.2.1, .bool x.2.2]) (by simp [results, Tryz.results18, go_sem, c20, c21, c22]) rfl ⟨rfl, ?_⟩
  exact (((K0.out.trans kk).setCell (by simp; try omega) _).setCell (by simp; try omega) _).setCell (by simp; try omega) _

end Go.Proofs.YtdeokdlkjgpffaaGreatDoor
