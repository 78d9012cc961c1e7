/- intervals: Both, Less -/
import Derived.Test.YtdeokdlkjgpffaaGreatDoorTi
namespace Go.Proofs.YtdeokdlkjgpffaaGreatDoor
set_option linter.all false
open Go.RowKit

/-- an interval without numbers; one that is valid -/
def empB (a b : Int) (s : Bool) : Bool := decide (a = 0) && decide (b = 0) && !s
def validB (a b : Int) (s : Bool) : Bool := empB a b s || (s && inB a 0 100000000 && inB b 0 100000000 && decide (a ≤ b))
theorem empty_any (a b : Int) (s : Bool) (w : World) :
    Calls Tryz.prog 61 #[.agg #[.int .i64 a, .int .i64 b, .bool s]] w fun e w' => e = .returned (.bool (empB a b s)) ∧ Kept w w' := by
  by_cases h1 : a = 0 <;> by_cases h2 : b = 0 <;> cases s
  all_goals
    first
      | subst h1; subst h2
      | subst h1
      | subst h2
      | skip
    go_enter Tryz.func61, Tryz.ntmps61
    go_wp2
    go_ret
    exact ⟨ret_bool (by simp [empB]; try omega), (Kept.refl _).alloc _⟩
theorem to_any (a b : Int) (w : World) :
    Calls Tryz.prog 62 #[.int .i64 a, .int .i64 b] w fun e w' => e = .returned (.agg #[.int .i64 (spL a b), .int .i64 (spH a b), .bool (spS a b)]) ∧ Kept w w' := by
  by_cases h : a ≤ b
  · have e0 : spL a b = a := if_pos h
    have e1 : spH a b = b := if_pos h
    have e2 : spS a b = true := decide_eq_true h
    rw [e0, e1, e2]
    clear e0 e1 e2
    go_enter Tryz.func62, Tryz.ntmps62
    go_wp2
    exact bodyPost_ret (v := .agg #[.int .i64 a, .int .i64 b, .bool true]) (by simp [results, Tryz.results62, go_sem]) rfl ⟨rfl, (Kept.refl _).alloc _⟩
  · have e0 : spL a b = 0 := if_neg h
    have e1 : spH a b = 0 := if_neg h
    have e2 : spS a b = false := decide_eq_false h
    rw [e0, e1, e2]
    clear e0 e1 e2
    go_enter Tryz.func62, Tryz.ntmps62
    go_wp2
    exact bodyPost_ret (v := .agg #[.int .i64 0, .int .i64 0, .bool false]) (by simp [results, Tryz.results62, go_sem]) rfl ⟨rfl, (Kept.refl _).alloc _⟩
theorem within2' (lo hi : Int) (b c : Nat) (x y : Int) (w : World) (h : w.cell? ⟨b, 0, none⟩ = some (.int .i64 x)) (h1 : w.cell? ⟨b, 1, none⟩ = some (.int .i64 y)) (r : Bool) (hr : (inB x lo hi && inB y lo hi) = r) :
    Calls Tryz.prog 49 #[.int .i64 lo, .int .i64 hi, .slice (some ⟨b, 0, none⟩) 2 c] w fun e w' => e = .returned (.bool r) ∧ w' = w := by rw [← hr]; exact within2 lo hi b c x y w h h1

theorem spanValid_any (a b : Int) (s : Bool) (w : World) :
    Calls Tryz.prog 60 #[.agg #[.int .i64 a, .int .i64 b, .bool s]] w fun e w' => e = .returned (.bool (validB a b s)) ∧ Kept w w' := by
  obtain ⟨W0, hW0⟩ : ∃ W0, W0 = w.alloc (.cells #[.int .i64 a, .int .i64 b, .bool s] 68) := ⟨_, rfl⟩
  have k0 : Kept w W0 := by rw [hW0]; exact ((Kept.refl _).alloc _)
  have c00 : W0.cell? ⟨w.heap.size, 0, none⟩ = some (.int .i64 a) := by rw [hW0]; exact cellNew (by simp) rfl
  have c01 : W0.cell? ⟨w.heap.size, 1, none⟩ = some (.int .i64 b) := by rw [hW0]; exact cellNew (by simp) rfl
  have c02 : W0.cell? ⟨w.heap.size, 2, none⟩ = some (.bool s) := by rw [hW0]; exact cellNew (by simp) rfl
  have BR : RowKit.Hid (∀ W, Kept W0 W → W.cell? ⟨w.heap.size, 0, none⟩ = some (.int .i64 a) ∧ W.cell? ⟨w.heap.size, 1, none⟩ = some (.int .i64 b) ∧ W.cell? ⟨w.heap.size, 2, none⟩ = some (.bool s)) := Lib.hid (fun W hW => ⟨(hW.cells _ _ (cell_lt c00)).trans c00, (hW.cells _ _ (cell_lt c01)).trans c01, (hW.cells _ _ (cell_lt c02)).trans c02⟩)
  have Z0 : W0.heap.size = w.heap.size + 1 := by rw [hW0]; simp
  have ZZ := Lib.hid Z0
  have HW := Lib.hid hW0
  have K0 := Lib.hid k0
  clear hW0 k0 Z0
  have kk := Kept.refl W0
  have b0 := cell_lt c00
  rcases he : empB a b s with _ | _
  · have HE : RowKit.Hid (∀ W, Calls Tryz.prog 61 #[.agg #[.int .i64 a, .int .i64 b, .bool s]] W fun e w' => e = .returned (.bool false) ∧ Kept W w') := Lib.hid (fun W => by rw [← he]; exact empty_any a b s W)
    cases s
    · have HS : RowKit.Hid (validB a b false = false) := Lib.hid (by simp [validB, he])
      clear he
      go_enter Tryz.func60, Tryz.ntmps60
      go_upto_region 1 with (fail)
      rw [← HW.out]
      go_wp2_with (first
        | (go_at_call 61; refine (HE.out _).mono ?_; rintro e w1 ⟨rfl, hk⟩; replace kk := (by first | with_reducible exact kk.trans hk | with_reducible exact (kk.alloc _).trans hk | with_reducible exact kk.drew.trans hk | with_reducible exact (kk.drew.alloc _).trans hk | with_reducible exact (kk.alloc _).drew.trans hk | with_reducible exact ((kk.alloc _).alloc _).trans hk | with_reducible exact ((kk.drew.alloc _).alloc _).trans hk | fail); obtain ⟨c00, c01, c02⟩ := BR.out _ kk; have b0 := cell_lt c00)
        | fail)
      go_ret
      exact ⟨ret_bool HS.out.symm, K0.out.trans (by first | with_reducible exact kk | with_reducible exact kk.alloc _ | with_reducible exact kk.drew | with_reducible exact kk.drew.alloc _ | with_reducible exact (kk.alloc _).alloc _ | fail)⟩
    · rcases hi : (inB a 0 100000000 && inB b 0 100000000) with _ | _
      · have HS : RowKit.Hid (validB a b true = false) := Lib.hid (by simp [validB, he]; simp at hi; intro h1 h2; rw [hi h1] at h2; cases h2)
        have HI := Lib.hid hi
        clear he hi
        go_enter Tryz.func60, Tryz.ntmps60
        go_upto_region 1 with (fail)
        rw [← HW.out]
        go_wp2_with (first
        | (go_at_call 61; refine (HE.out _).mono ?_; rintro e w1 ⟨rfl, hk⟩; replace kk := (by first | with_reducible exact kk.trans hk | with_reducible exact (kk.alloc _).trans hk | with_reducible exact kk.drew.trans hk | with_reducible exact (kk.drew.alloc _).trans hk | with_reducible exact (kk.alloc _).drew.trans hk | with_reducible exact ((kk.alloc _).alloc _).trans hk | with_reducible exact ((kk.drew.alloc _).alloc _).trans hk | fail); obtain ⟨c00, c01, c02⟩ := BR.out _ kk; have b0 := cell_lt c00)
        | (go_at_call 49; refine (within2' _ _ _ _ a b _ (cellNew (by simp) rfl) (cellNew (by simp) rfl) _ HI.out).mono ?_; rintro e w1 ⟨rfl, rfl⟩)
        | fail)
        go_ret
        exact ⟨ret_bool HS.out.symm, K0.out.trans (by first | with_reducible exact kk | with_reducible exact kk.alloc _ | with_reducible exact kk.drew | with_reducible exact kk.drew.alloc _ | with_reducible exact (kk.alloc _).alloc _ | fail)⟩
      · have HS : RowKit.Hid (validB a b true = decide (a ≤ b)) := Lib.hid (by simp [validB, he]; simp at hi; simp [hi])
        have HI := Lib.hid hi
        clear he hi
        go_enter Tryz.func60, Tryz.ntmps60
        go_upto_region 1 with (fail)
        rw [← HW.out]
        go_wp2_with (first
        | (go_at_call 61; refine (HE.out _).mono ?_; rintro e w1 ⟨rfl, hk⟩; replace kk := (by first | with_reducible exact kk.trans hk | with_reducible exact (kk.alloc _).trans hk | with_reducible exact kk.drew.trans hk | with_reducible exact (kk.drew.alloc _).trans hk | with_reducible exact (kk.alloc _).drew.trans hk | with_reducible exact ((kk.alloc _).alloc _).trans hk | with_reducible exact ((kk.drew.alloc _).alloc _).trans hk | fail); obtain ⟨c00, c01, c02⟩ := BR.out _ kk; have b0 := cell_lt c00)
        | (go_at_call 49; refine (within2' _ _ _ _ a b _ (cellNew (by simp) rfl) (cellNew (by simp) rfl) _ HI.out).mono ?_; rintro e w1 ⟨rfl, rfl⟩)
        | fail)
        go_ret
        exact ⟨ret_bool HS.out.symm, K0.out.trans (by first | with_reducible exact kk | with_reducible exact kk.alloc _ | with_reducible exact kk.drew | with_reducible exact kk.drew.alloc _ | with_reducible exact (kk.alloc _).alloc _ | fail)⟩
  · have HE : RowKit.Hid (∀ W, Calls Tryz.prog 61 #[.agg #[.int .i64 a, .int .i64 b, .bool s]] W fun e w' => e = .returned (.bool true) ∧ Kept W w') := Lib.hid (fun W => by rw [← he]; exact empty_any a b s W)
    have HS : RowKit.Hid (validB a b s = true) := Lib.hid (by simp [validB, he])
    clear he
    go_enter Tryz.func60, Tryz.ntmps60
    go_upto_region 1 with (fail)
    rw [← HW.out]
    go_wp2_with (first
        | (go_at_call 61; refine (HE.out _).mono ?_; rintro e w1 ⟨rfl, hk⟩; replace kk := (by first | with_reducible exact kk.trans hk | with_reducible exact (kk.alloc _).trans hk | with_reducible exact kk.drew.trans hk | with_reducible exact (kk.drew.alloc _).trans hk | with_reducible exact (kk.alloc _).drew.trans hk | with_reducible exact ((kk.alloc _).alloc _).trans hk | with_reducible exact ((kk.drew.alloc _).alloc _).trans hk | fail); obtain ⟨c00, c01, c02⟩ := BR.out _ kk; have b0 := cell_lt c00)
        | fail)
    go_ret
    exact ⟨ret_bool HS.out.symm, K0.out.trans (by first | with_reducible exact kk | with_reducible exact kk.alloc _ | with_reducible exact kk.drew | with_reducible exact kk.drew.alloc _ | with_reducible exact (kk.alloc _).alloc _ | fail)⟩
end Go.Proofs.YtdeokdlkjgpffaaGreatDoor
