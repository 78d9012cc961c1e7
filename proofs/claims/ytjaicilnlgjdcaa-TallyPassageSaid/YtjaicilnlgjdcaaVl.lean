/- the reference's Valid, Both, Less -/
import Derived.Test.YtjaicilnlgjdcaaUe
namespace Go.Proofs.Ytjaicilnlgjdcaa
set_option linter.all false
open Go.RowKit

set_option maxRecDepth 100000 in
theorem rvalid_any (a b : Int) (s : Bool) (w : World) :
    Calls Try.prog 83 #[.agg #[.int .i64 a, .int .i64 b, .bool s]] w fun e w' => e = .returned (.bool (validB a b s)) ∧ Kept w w' := by
  have fin : ∀ r : Bool, r = validB a b s → Ending.returned (Value.bool r) = Ending.returned (Value.bool (validB a b s)) := fun r h => by rw [h]
  cases s
  · by_cases h1 : a = 0 <;> by_cases h2 : b = 0
    all_goals
      first
        | subst h1; subst h2
        | subst h1
        | subst h2
        | skip
      go_enter Try.func83, Try.ntmps83
      go_wp2
      go_ret
      exact ⟨fin _ (by simp [validB, empB]; try omega), (Kept.refl _).alloc _⟩
  · by_cases h1 : 0 ≤ a
    · by_cases h2 : a ≤ b
      · go_enter Try.func83, Try.ntmps83
        go_wp2
        go_ret
        exact ⟨fin _ (by rw [Bool.eq_iff_iff]; simp [validB, empB, inB]; try omega), (Kept.refl _).alloc _⟩
      · go_enter Try.func83, Try.ntmps83
        go_wp2
        go_ret
        exact ⟨fin _ (by rw [Bool.eq_iff_iff]; simp [validB, empB, inB]; try omega), (Kept.refl _).alloc _⟩
    · go_enter Try.func83, Try.ntmps83
      go_wp2
      go_ret
      exact ⟨fin _ (by rw [Bool.eq_iff_iff]; simp [validB, empB, inB]; try omega), (Kept.refl _).alloc _⟩
theorem rvalid_b (a b : Int) (s r : Bool) (h : validB a b s = r) (w : World) :
    Calls Try.prog 83 #[.agg #[.int .i64 a, .int .i64 b, .bool s]] w fun e w' => e = .returned (.bool r) ∧ Kept w w' := by rw [← h]; exact rvalid_any a b s w
theorem valid_some {a b : Int} (h : validB a b false = true) : empB a b false = true := by simpa [validB] using h
theorem valid_some' {a b : Int} (h : validB a b true = true) : empB a b true = false := by simp [empB]

set_option maxRecDepth 100000 in
set_option maxHeartbeats 4000000 in
theorem rboth_any (a b : Int) (s : Bool) (c d : Int) (t : Bool) (w : World) :
    Calls Try.prog 34 #[.agg #[.int .i64 a, .int .i64 b, .bool s], .agg #[.int .i64 c, .int .i64 d, .bool t]] w fun e w' => e = .returned (.agg #[.int .i64 (bothX a b s c d t).1, .int .i64 (bothX a b s c d t).2.1, .bool (bothX a b s c d t).2.2]) ∧ Kept w w' := by
  obtain ⟨W0, hW0⟩ : ∃ W0, W0 = ((w.alloc (.cells #[.int .i64 a, .int .i64 b, .bool s] 34)).alloc (.cells #[.int .i64 c, .int .i64 d, .bool t] 34)).alloc (.cells #[.int .i64 0, .int .i64 0, .bool false] 34) := ⟨_, rfl⟩
  have k0 : Kept w W0 := by rw [hW0]; exact ((((Kept.refl _).alloc _).alloc _).alloc _)
  have c00 : W0.cell? ⟨w.heap.size, 0, none⟩ = some (.int .i64 a) := by rw [hW0]; exact cellOld _ (cellOld _ (cellNew (by simp) rfl))
  have c01 : W0.cell? ⟨w.heap.size, 1, none⟩ = some (.int .i64 b) := by rw [hW0]; exact cellOld _ (cellOld _ (cellNew (by simp) rfl))
  have c02 : W0.cell? ⟨w.heap.size, 2, none⟩ = some (.bool s) := by rw [hW0]; exact cellOld _ (cellOld _ (cellNew (by simp) rfl))
  have c10 : W0.cell? ⟨w.heap.size + 1, 0, none⟩ = some (.int .i64 c) := by rw [hW0]; exact cellOld _ (cellNew (by simp) rfl)
  have c11 : W0.cell? ⟨w.heap.size + 1, 1, none⟩ = some (.int .i64 d) := by rw [hW0]; exact cellOld _ (cellNew (by simp) rfl)
  have c12 : W0.cell? ⟨w.heap.size + 1, 2, none⟩ = some (.bool t) := by rw [hW0]; exact cellOld _ (cellNew (by simp) rfl)
  have c20 : W0.cell? ⟨w.heap.size + 1 + 1, 0, none⟩ = some (.int .i64 0) := by rw [hW0]; exact cellNew (by simp) rfl
  have f20 : W0.frozen? ⟨w.heap.size + 1 + 1, 0, none⟩ = false := by rw [hW0]; simp [go_sem]
  have c21 : W0.cell? ⟨w.heap.size + 1 + 1, 1, none⟩ = some (.int .i64 0) := by rw [hW0]; exact cellNew (by simp) rfl
  have f21 : W0.frozen? ⟨w.heap.size + 1 + 1, 1, none⟩ = false := by rw [hW0]; simp [go_sem]
  have c22 : W0.cell? ⟨w.heap.size + 1 + 1, 2, none⟩ = some (.bool false) := by rw [hW0]; exact cellNew (by simp) rfl
  have f22 : W0.frozen? ⟨w.heap.size + 1 + 1, 2, none⟩ = false := by rw [hW0]; simp [go_sem]
  have BR : RowKit.Hid (∀ W, Kept W0 W → W.cell? ⟨w.heap.size, 0, none⟩ = some (.int .i64 a) ∧ W.cell? ⟨w.heap.size, 1, none⟩ = some (.int .i64 b) ∧ W.cell? ⟨w.heap.size, 2, none⟩ = some (.bool s) ∧ W.cell? ⟨w.heap.size + 1, 0, none⟩ = some (.int .i64 c) ∧ W.cell? ⟨w.heap.size + 1, 1, none⟩ = some (.int .i64 d) ∧ W.cell? ⟨w.heap.size + 1, 2, none⟩ = some (.bool t) ∧ W.cell? ⟨w.heap.size + 1 + 1, 0, none⟩ = some (.int .i64 0) ∧ W.frozen? ⟨w.heap.size + 1 + 1, 0, none⟩ = false ∧ W.cell? ⟨w.heap.size + 1 + 1, 1, none⟩ = some (.int .i64 0) ∧ W.frozen? ⟨w.heap.size + 1 + 1, 1, none⟩ = false ∧ W.cell? ⟨w.heap.size + 1 + 1, 2, none⟩ = some (.bool false) ∧ W.frozen? ⟨w.heap.size + 1 + 1, 2, none⟩ = false) := Lib.hid (fun W hW => ⟨(hW.cells _ _ (cell_lt c00)).trans c00, (hW.cells _ _ (cell_lt c01)).trans c01, (hW.cells _ _ (cell_lt c02)).trans c02, (hW.cells _ _ (cell_lt c10)).trans c10, (hW.cells _ _ (cell_lt c11)).trans c11, (hW.cells _ _ (cell_lt c12)).trans c12, (hW.cells _ _ (cell_lt c20)).trans c20, (hW.frozens _ _ (cell_lt c20)).trans f20, (hW.cells _ _ (cell_lt c21)).trans c21, (hW.frozens _ _ (cell_lt c21)).trans f21, (hW.cells _ _ (cell_lt c22)).trans c22, (hW.frozens _ _ (cell_lt c22)).trans f22⟩)
  have Z0 : W0.heap.size = w.heap.size + 1 + 1 + 1 := by rw [hW0]; simp
  have ZZ := Lib.hid Z0
  have HW := Lib.hid hW0
  have K0 := Lib.hid k0
  clear hW0 k0 Z0
  have kk := Kept.refl W0
  have b0 := cell_lt c00
  have b1 := cell_lt c10
  have b2 := cell_lt c20
  rcases h1 : validB a b s with _ | _
  · have HE1 := Lib.hid h1
    clear h1
    rw [tripV (show bothX a b _ c d _ = (0, 0, false) from by rw [bothX, if_neg (by rw [HE1.out]; simp)])]
    go_enter Try.func34, Try.ntmps34
    go_upto_region 1 with (fail)
    rw [← HW.out]
    go_wp2_with (first
        | (go_at_call 83; (with_reducible refine (rvalid_b _ _ _ _ HE1.out _).mono ?_); rintro e w1 ⟨rfl, hk⟩; replace kk := (by first | with_reducible exact kk.trans hk | with_reducible exact (kk.alloc _).trans hk | with_reducible exact kk.drew.trans hk | with_reducible exact (kk.drew.alloc _).trans hk | with_reducible exact (kk.alloc _).drew.trans hk | with_reducible exact ((kk.alloc _).alloc _).trans hk | with_reducible exact ((kk.drew.alloc _).alloc _).trans hk | fail); obtain ⟨c00, c01, c02, c10, c11, c12, c20, f20, c21, f21, c22, f22⟩ := BR.out _ kk; have b0 := cell_lt c00; have b1 := cell_lt c10; have b2 := cell_lt c20)
        | fail)
    refine bodyPost_ret (v := .agg #[.int .i64 0, .int .i64 0, .bool false]) (by simp [results, Try.results34, go_sem, c20, c21, c22]) rfl ⟨rfl, ?_⟩
    exact (((K0.out.trans kk).setCell (by simp; try omega) _).setCell (by simp; try omega) _).setCell (by simp; try omega) _
  rcases h2 : validB c d t with _ | _
  · have HE1 := Lib.hid h1
    have HE2 := Lib.hid h2
    clear h1 h2
    rw [tripV (show bothX a b _ c d _ = (0, 0, false) from by rw [bothX, if_neg (by rw [HE2.out]; simp)])]
    go_enter Try.func34, Try.ntmps34
    go_upto_region 1 with (fail)
    rw [← HW.out]
    go_wp2_with (first
        | (go_at_call 83; (with_reducible refine (rvalid_b _ _ _ _ HE1.out _).mono ?_); rintro e w1 ⟨rfl, hk⟩; replace kk := (by first | with_reducible exact kk.trans hk | with_reducible exact (kk.alloc _).trans hk | with_reducible exact kk.drew.trans hk | with_reducible exact (kk.drew.alloc _).trans hk | with_reducible exact (kk.alloc _).drew.trans hk | with_reducible exact ((kk.alloc _).alloc _).trans hk | with_reducible exact ((kk.drew.alloc _).alloc _).trans hk | fail); obtain ⟨c00, c01, c02, c10, c11, c12, c20, f20, c21, f21, c22, f22⟩ := BR.out _ kk; have b0 := cell_lt c00; have b1 := cell_lt c10; have b2 := cell_lt c20)
        | (go_at_call 83; (with_reducible refine (rvalid_b _ _ _ _ HE2.out _).mono ?_); rintro e w1 ⟨rfl, hk⟩; replace kk := (by first | with_reducible exact kk.trans hk | with_reducible exact (kk.alloc _).trans hk | with_reducible exact kk.drew.trans hk | with_reducible exact (kk.drew.alloc _).trans hk | with_reducible exact (kk.alloc _).drew.trans hk | with_reducible exact ((kk.alloc _).alloc _).trans hk | with_reducible exact ((kk.drew.alloc _).alloc _).trans hk | fail); obtain ⟨c00, c01, c02, c10, c11, c12, c20, f20, c21, f21, c22, f22⟩ := BR.out _ kk; have b0 := cell_lt c00; have b1 := cell_lt c10; have b2 := cell_lt c20)
        | fail)
    refine bodyPost_ret (v := .agg #[.int .i64 0, .int .i64 0, .bool false]) (by simp [results, Try.results34, go_sem, c20, c21, c22]) rfl ⟨rfl, ?_⟩
    exact (((K0.out.trans kk).setCell (by simp; try omega) _).setCell (by simp; try omega) _).setCell (by simp; try omega) _
  have HE1 := Lib.hid h1
  have HE2 := Lib.hid h2
  have hv1 := valid_bd h1
  have hv2 := valid_bd h2
  clear h1 h2
  cases s
  · have HZ := Lib.hid (valid_some HE1.out)
    rw [tripV (show bothX a b _ c d _ = (0, 0, false) from by rw [bothX, if_pos ⟨HE1.out, HE2.out⟩, bothI, if_pos (.inl HZ.out)])]
    go_enter Try.func34, Try.ntmps34
    go_upto_region 1 with (fail)
    rw [← HW.out]
    go_wp2_with (first
        | (go_at_call 83; (with_reducible refine (rvalid_b _ _ _ _ HE1.out _).mono ?_); rintro e w1 ⟨rfl, hk⟩; replace kk := (by first | with_reducible exact kk.trans hk | with_reducible exact (kk.alloc _).trans hk | with_reducible exact kk.drew.trans hk | with_reducible exact (kk.drew.alloc _).trans hk | with_reducible exact (kk.alloc _).drew.trans hk | with_reducible exact ((kk.alloc _).alloc _).trans hk | with_reducible exact ((kk.drew.alloc _).alloc _).trans hk | fail); obtain ⟨c00, c01, c02, c10, c11, c12, c20, f20, c21, f21, c22, f22⟩ := BR.out _ kk; have b0 := cell_lt c00; have b1 := cell_lt c10; have b2 := cell_lt c20)
        | (go_at_call 83; (with_reducible refine (rvalid_b _ _ _ _ HE2.out _).mono ?_); rintro e w1 ⟨rfl, hk⟩; replace kk := (by first | with_reducible exact kk.trans hk | with_reducible exact (kk.alloc _).trans hk | with_reducible exact kk.drew.trans hk | with_reducible exact (kk.drew.alloc _).trans hk | with_reducible exact (kk.alloc _).drew.trans hk | with_reducible exact ((kk.alloc _).alloc _).trans hk | with_reducible exact ((kk.drew.alloc _).alloc _).trans hk | fail); obtain ⟨c00, c01, c02, c10, c11, c12, c20, f20, c21, f21, c22, f22⟩ := BR.out _ kk; have b0 := cell_lt c00; have b1 := cell_lt c10; have b2 := cell_lt c20)
        | fail)
    refine bodyPost_ret (v := .agg #[.int .i64 0, .int .i64 0, .bool false]) (by simp [results, Try.results34, go_sem, c20, c21, c22]) rfl ⟨rfl, ?_⟩
    exact (((K0.out.trans kk).setCell (by simp; try omega) _).setCell (by simp; try omega) _).setCell (by simp; try omega) _
  cases t
  · have HZ := Lib.hid (valid_some HE2.out)
    rw [tripV (show bothX a b _ c d _ = (0, 0, false) from by rw [bothX, if_pos ⟨HE1.out, HE2.out⟩, bothI, if_pos (.inr HZ.out)])]
    go_enter Try.func34, Try.ntmps34
    go_upto_region 1 with (fail)
    rw [← HW.out]
    go_wp2_with (first
        | (go_at_call 83; (with_reducible refine (rvalid_b _ _ _ _ HE1.out _).mono ?_); rintro e w1 ⟨rfl, hk⟩; replace kk := (by first | with_reducible exact kk.trans hk | with_reducible exact (kk.alloc _).trans hk | with_reducible exact kk.drew.trans hk | with_reducible exact (kk.drew.alloc _).trans hk | with_reducible exact (kk.alloc _).drew.trans hk | with_reducible exact ((kk.alloc _).alloc _).trans hk | with_reducible exact ((kk.drew.alloc _).alloc _).trans hk | fail); obtain ⟨c00, c01, c02, c10, c11, c12, c20, f20, c21, f21, c22, f22⟩ := BR.out _ kk; have b0 := cell_lt c00; have b1 := cell_lt c10; have b2 := cell_lt c20)
        | (go_at_call 83; (with_reducible refine (rvalid_b _ _ _ _ HE2.out _).mono ?_); rintro e w1 ⟨rfl, hk⟩; replace kk := (by first | with_reducible exact kk.trans hk | with_reducible exact (kk.alloc _).trans hk | with_reducible exact kk.drew.trans hk | with_reducible exact (kk.drew.alloc _).trans hk | with_reducible exact (kk.alloc _).drew.trans hk | with_reducible exact ((kk.alloc _).alloc _).trans hk | with_reducible exact ((kk.drew.alloc _).alloc _).trans hk | fail); obtain ⟨c00, c01, c02, c10, c11, c12, c20, f20, c21, f21, c22, f22⟩ := BR.out _ kk; have b0 := cell_lt c00; have b1 := cell_lt c10; have b2 := cell_lt c20)
        | fail)
    refine bodyPost_ret (v := .agg #[.int .i64 0, .int .i64 0, .bool false]) (by simp [results, Try.results34, go_sem, c20, c21, c22]) rfl ⟨rfl, ?_⟩
    exact (((K0.out.trans kk).setCell (by simp; try omega) _).setCell (by simp; try omega) _).setCell (by simp; try omega) _
  have HX : RowKit.Hid (bothX a b true c d true = spI (max a c) (min b d)) := Lib.hid (by rw [bothX, if_pos ⟨HE1.out, HE2.out⟩, bothI, if_neg (by simp [empB])])
  rw [show (.agg #[.int .i64 (bothX a b true c d true).1, .int .i64 (bothX a b true c d true).2.1, .bool (bothX a b true c d true).2.2] : Value) = .agg #[.int .i64 (spI (max a c) (min b d)).1, .int .i64 (spI (max a c) (min b d)).2.1, .bool (spI (max a c) (min b d)).2.2] by rw [HX.out]]
  obtain ⟨u, hu⟩ : ∃ u, u = max a c := ⟨_, rfl⟩
  obtain ⟨v, hv⟩ : ∃ v, v = min b d := ⟨_, rfl⟩
  rw [← hu, ← hv]
  obtain ⟨x, hx⟩ : ∃ x, x = spI u v := ⟨_, rfl⟩
  have HC : RowKit.Hid (∀ W, Calls Try.prog 72 #[.int .i64 u, .int .i64 v] W fun e w' => e = .returned (.agg #[.int .i64 x.1, .int .i64 x.2.1, .bool x.2.2]) ∧ Kept W w') := Lib.hid (fun W => by rw [hx]; exact span_any u v W)
  rw [← hx]
  clear hx
  rcases Int.lt_or_le a c with h3 | h3 <;> rcases Int.lt_or_le d b with h4 | h4
  case' inl.inl => replace hu : u = c := by omega
  case' inl.inl => replace hv : v = d := by omega
  case' inl.inr => replace hu : u = c := by omega
  case' inl.inr => replace hv : v = b := by omega
  case' inr.inl => replace hu : u = a := by omega
  case' inr.inl => replace hv : v = d := by omega
  case' inr.inr => replace hu : u = a := by omega
  case' inr.inr => replace hv : v = b := by omega
  all_goals
    subst hu hv
    go_enter Try.func34, Try.ntmps34
    go_upto_region 1 with (fail)
    rw [← HW.out]
    go_wp2_with (first
        | (go_at_call 83; (with_reducible refine (rvalid_b _ _ _ _ HE1.out _).mono ?_); rintro e w1 ⟨rfl, hk⟩; replace kk := (by first | with_reducible exact kk.trans hk | with_reducible exact (kk.alloc _).trans hk | with_reducible exact kk.drew.trans hk | with_reducible exact (kk.drew.alloc _).trans hk | with_reducible exact (kk.alloc _).drew.trans hk | with_reducible exact ((kk.alloc _).alloc _).trans hk | with_reducible exact ((kk.drew.alloc _).alloc _).trans hk | fail); obtain ⟨c00, c01, c02, c10, c11, c12, c20, f20, c21, f21, c22, f22⟩ := BR.out _ kk; have b0 := cell_lt c00; have b1 := cell_lt c10; have b2 := cell_lt c20)
        | (go_at_call 83; (with_reducible refine (rvalid_b _ _ _ _ HE2.out _).mono ?_); rintro e w1 ⟨rfl, hk⟩; replace kk := (by first | with_reducible exact kk.trans hk | with_reducible exact (kk.alloc _).trans hk | with_reducible exact kk.drew.trans hk | with_reducible exact (kk.drew.alloc _).trans hk | with_reducible exact (kk.alloc _).drew.trans hk | with_reducible exact ((kk.alloc _).alloc _).trans hk | with_reducible exact ((kk.drew.alloc _).alloc _).trans hk | fail); obtain ⟨c00, c01, c02, c10, c11, c12, c20, f20, c21, f21, c22, f22⟩ := BR.out _ kk; have b0 := cell_lt c00; have b1 := cell_lt c10; have b2 := cell_lt c20)
        | (go_at_call 72; refine (HC.out _).mono ?_; rintro e w1 ⟨rfl, hk⟩; replace kk := (by first | with_reducible exact kk.trans hk | with_reducible exact (kk.alloc _).trans hk | with_reducible exact kk.drew.trans hk | with_reducible exact (kk.drew.alloc _).trans hk | with_reducible exact (kk.alloc _).drew.trans hk | with_reducible exact ((kk.alloc _).alloc _).trans hk | with_reducible exact ((kk.drew.alloc _).alloc _).trans hk | fail); obtain ⟨c00, c01, c02, c10, c11, c12, c20, f20, c21, f21, c22, f22⟩ := BR.out _ kk; have b0 := cell_lt c00; have b1 := cell_lt c10; have b2 := cell_lt c20)
        | fail)
    refine bodyPost_ret (v := .agg #[.int .i64 x.1, .int .i64 x.2.1, .bool x.2.2]) (by simp [results, Try.results34, go_sem, c20, c21, c22]) rfl ⟨rfl, ?_⟩
    exact (((K0.out.trans kk).setCell (by simp; try omega) _).setCell (by simp; try omega) _).setCell (by simp; try omega) _

set_option maxRecDepth 100000 in
set_option maxHeartbeats 4000000 in
theorem rless_any (a b : Int) (s : Bool) (c d : Int) (t : Bool) (w : World) :
    Calls Try.prog 36 #[.agg #[.int .i64 a, .int .i64 b, .bool s], .agg #[.int .i64 c, .int .i64 d, .bool t]] w fun e w' => e = .returned (.agg #[.int .i64 (lessX a b s c d t).1, .int .i64 (lessX a b s c d t).2.1, .bool (lessX a b s c d t).2.2]) ∧ Kept w w' := by
  obtain ⟨W0, hW0⟩ : ∃ W0, W0 = ((w.alloc (.cells #[.int .i64 a, .int .i64 b, .bool s] 34)).alloc (.cells #[.int .i64 c, .int .i64 d, .bool t] 34)).alloc (.cells #[.int .i64 0, .int .i64 0, .bool false] 34) := ⟨_, rfl⟩
  have k0 : Kept w W0 := by rw [hW0]; exact ((((Kept.refl _).alloc _).alloc _).alloc _)
  have c00 : W0.cell? ⟨w.heap.size, 0, none⟩ = some (.int .i64 a) := by rw [hW0]; exact cellOld _ (cellOld _ (cellNew (by simp) rfl))
  have c01 : W0.cell? ⟨w.heap.size, 1, none⟩ = some (.int .i64 b) := by rw [hW0]; exact cellOld _ (cellOld _ (cellNew (by simp) rfl))
  have c02 : W0.cell? ⟨w.heap.size, 2, none⟩ = some (.bool s) := by rw [hW0]; exact cellOld _ (cellOld _ (cellNew (by simp) rfl))
  have c10 : W0.cell? ⟨w.heap.size + 1, 0, none⟩ = some (.int .i64 c) := by rw [hW0]; exact cellOld _ (cellNew (by simp) rfl)
  have c11 : W0.cell? ⟨w.heap.size + 1, 1, none⟩ = some (.int .i64 d) := by rw [hW0]; exact cellOld _ (cellNew (by simp) rfl)
  have c12 : W0.cell? ⟨w.heap.size + 1, 2, none⟩ = some (.bool t) := by rw [hW0]; exact cellOld _ (cellNew (by simp) rfl)
  have c20 : W0.cell? ⟨w.heap.size + 1 + 1, 0, none⟩ = some (.int .i64 0) := by rw [hW0]; exact cellNew (by simp) rfl
  have f20 : W0.frozen? ⟨w.heap.size + 1 + 1, 0, none⟩ = false := by rw [hW0]; simp [go_sem]
  have c21 : W0.cell? ⟨w.heap.size + 1 + 1, 1, none⟩ = some (.int .i64 0) := by rw [hW0]; exact cellNew (by simp) rfl
  have f21 : W0.frozen? ⟨w.heap.size + 1 + 1, 1, none⟩ = false := by rw [hW0]; simp [go_sem]
  have c22 : W0.cell? ⟨w.heap.size + 1 + 1, 2, none⟩ = some (.bool false) := by rw [hW0]; exact cellNew (by simp) rfl
  have f22 : W0.frozen? ⟨w.heap.size + 1 + 1, 2, none⟩ = false := by rw [hW0]; simp [go_sem]
  have BR : RowKit.Hid (∀ W, Kept W0 W → W.cell? ⟨w.heap.size, 0, none⟩ = some (.int .i64 a) ∧ W.cell? ⟨w.heap.size, 1, none⟩ = some (.int .i64 b) ∧ W.cell? ⟨w.heap.size, 2, none⟩ = some (.bool s) ∧ W.cell? ⟨w.heap.size + 1, 0, none⟩ = some (.int .i64 c) ∧ W.cell? ⟨w.heap.size + 1, 1, none⟩ = some (.int .i64 d) ∧ W.cell? ⟨w.heap.size + 1, 2, none⟩ = some (.bool t) ∧ W.cell? ⟨w.heap.size + 1 + 1, 0, none⟩ = some (.int .i64 0) ∧ W.frozen? ⟨w.heap.size + 1 + 1, 0, none⟩ = false ∧ W.cell? ⟨w.heap.size + 1 + 1, 1, none⟩ = some (.int .i64 0) ∧ W.frozen? ⟨w.heap.size + 1 + 1, 1, none⟩ = false ∧ W.cell? ⟨w.heap.size + 1 + 1, 2, none⟩ = some (.bool false) ∧ W.frozen? ⟨w.heap.size + 1 + 1, 2, none⟩ = false) := Lib.hid (fun W hW => ⟨(hW.cells _ _ (cell_lt c00)).trans c00, (hW.cells _ _ (cell_lt c01)).trans c01, (hW.cells _ _ (cell_lt c02)).trans c02, (hW.cells _ _ (cell_lt c10)).trans c10, (hW.cells _ _ (cell_lt c11)).trans c11, (hW.cells _ _ (cell_lt c12)).trans c12, (hW.cells _ _ (cell_lt c20)).trans c20, (hW.frozens _ _ (cell_lt c20)).trans f20, (hW.cells _ _ (cell_lt c21)).trans c21, (hW.frozens _ _ (cell_lt c21)).trans f21, (hW.cells _ _ (cell_lt c22)).trans c22, (hW.frozens _ _ (cell_lt c22)).trans f22⟩)
  have Z0 : W0.heap.size = w.heap.size + 1 + 1 + 1 := by rw [hW0]; simp
  have ZZ := Lib.hid Z0
  have HW := Lib.hid hW0
  have K0 := Lib.hid k0
  clear hW0 k0 Z0
  have kk := Kept.refl W0
  have b0 := cell_lt c00
  have b1 := cell_lt c10
  have b2 := cell_lt c20
  rcases h1 : validB a b s with _ | _
  · have HE1 := Lib.hid h1
    clear h1
    rw [tripV (show lessX a b _ c d _ = (0, 0, false) from by rw [lessX, if_neg (by rw [HE1.out]; simp)])]
    go_enter Try.func36, Try.ntmps36
    go_upto_region 1 with (fail)
    rw [← HW.out]
    go_wp2_with (first
        | (go_at_call 83; (with_reducible refine (rvalid_b _ _ _ _ HE1.out _).mono ?_); rintro e w1 ⟨rfl, hk⟩; replace kk := (by first | with_reducible exact kk.trans hk | with_reducible exact (kk.alloc _).trans hk | with_reducible exact kk.drew.trans hk | with_reducible exact (kk.drew.alloc _).trans hk | with_reducible exact (kk.alloc _).drew.trans hk | with_reducible exact ((kk.alloc _).alloc _).trans hk | with_reducible exact ((kk.drew.alloc _).alloc _).trans hk | fail); obtain ⟨c00, c01, c02, c10, c11, c12, c20, f20, c21, f21, c22, f22⟩ := BR.out _ kk; have b0 := cell_lt c00; have b1 := cell_lt c10; have b2 := cell_lt c20)
        | fail)
    refine bodyPost_ret (v := .agg #[.int .i64 0, .int .i64 0, .bool false]) (by simp [results, Try.results36, go_sem, c20, c21, c22]) rfl ⟨rfl, ?_⟩
    exact (((K0.out.trans kk).setCell (by simp; try omega) _).setCell (by simp; try omega) _).setCell (by simp; try omega) _
  rcases h2 : validB c d t with _ | _
  · have HE1 := Lib.hid h1
    have HE2 := Lib.hid h2
    clear h1 h2
    rw [tripV (show lessX a b _ c d _ = (0, 0, false) from by rw [lessX, if_neg (by rw [HE2.out]; simp)])]
    go_enter Try.func36, Try.ntmps36
    go_upto_region 1 with (fail)
    rw [← HW.out]
    go_wp2_with (first
        | (go_at_call 83; (with_reducible refine (rvalid_b _ _ _ _ HE1.out _).mono ?_); rintro e w1 ⟨rfl, hk⟩; replace kk := (by first | with_reducible exact kk.trans hk | with_reducible exact (kk.alloc _).trans hk | with_reducible exact kk.drew.trans hk | with_reducible exact (kk.drew.alloc _).trans hk | with_reducible exact (kk.alloc _).drew.trans hk | with_reducible exact ((kk.alloc _).alloc _).trans hk | with_reducible exact ((kk.drew.alloc _).alloc _).trans hk | fail); obtain ⟨c00, c01, c02, c10, c11, c12, c20, f20, c21, f21, c22, f22⟩ := BR.out _ kk; have b0 := cell_lt c00; have b1 := cell_lt c10; have b2 := cell_lt c20)
        | (go_at_call 83; (with_reducible refine (rvalid_b _ _ _ _ HE2.out _).mono ?_); rintro e w1 ⟨rfl, hk⟩; replace kk := (by first | with_reducible exact kk.trans hk | with_reducible exact (kk.alloc _).trans hk | with_reducible exact kk.drew.trans hk | with_reducible exact (kk.drew.alloc _).trans hk | with_reducible exact (kk.alloc _).drew.trans hk | with_reducible exact ((kk.alloc _).alloc _).trans hk | with_reducible exact ((kk.drew.alloc _).alloc _).trans hk | fail); obtain ⟨c00, c01, c02, c10, c11, c12, c20, f20, c21, f21, c22, f22⟩ := BR.out _ kk; have b0 := cell_lt c00; have b1 := cell_lt c10; have b2 := cell_lt c20)
        | fail)
    refine bodyPost_ret (v := .agg #[.int .i64 0, .int .i64 0, .bool false]) (by simp [results, Try.results36, go_sem, c20, c21, c22]) rfl ⟨rfl, ?_⟩
    exact (((K0.out.trans kk).setCell (by simp; try omega) _).setCell (by simp; try omega) _).setCell (by simp; try omega) _
  have HE1 := Lib.hid h1
  have HE2 := Lib.hid h2
  have hv1 := valid_bd h1
  have hv2 := valid_bd h2
  clear h1 h2
  cases s
  · have HZ := Lib.hid (valid_some HE1.out)
    rw [tripV (show lessX a b _ c d _ = (0, 0, false) from by rw [lessX, if_pos ⟨HE1.out, HE2.out⟩, lessI, if_pos (.inl HZ.out)])]
    go_enter Try.func36, Try.ntmps36
    go_upto_region 1 with (fail)
    rw [← HW.out]
    go_wp2_with (first
        | (go_at_call 83; (with_reducible refine (rvalid_b _ _ _ _ HE1.out _).mono ?_); rintro e w1 ⟨rfl, hk⟩; replace kk := (by first | with_reducible exact kk.trans hk | with_reducible exact (kk.alloc _).trans hk | with_reducible exact kk.drew.trans hk | with_reducible exact (kk.drew.alloc _).trans hk | with_reducible exact (kk.alloc _).drew.trans hk | with_reducible exact ((kk.alloc _).alloc _).trans hk | with_reducible exact ((kk.drew.alloc _).alloc _).trans hk | fail); obtain ⟨c00, c01, c02, c10, c11, c12, c20, f20, c21, f21, c22, f22⟩ := BR.out _ kk; have b0 := cell_lt c00; have b1 := cell_lt c10; have b2 := cell_lt c20)
        | (go_at_call 83; (with_reducible refine (rvalid_b _ _ _ _ HE2.out _).mono ?_); rintro e w1 ⟨rfl, hk⟩; replace kk := (by first | with_reducible exact kk.trans hk | with_reducible exact (kk.alloc _).trans hk | with_reducible exact kk.drew.trans hk | with_reducible exact (kk.drew.alloc _).trans hk | with_reducible exact (kk.alloc _).drew.trans hk | with_reducible exact ((kk.alloc _).alloc _).trans hk | with_reducible exact ((kk.drew.alloc _).alloc _).trans hk | fail); obtain ⟨c00, c01, c02, c10, c11, c12, c20, f20, c21, f21, c22, f22⟩ := BR.out _ kk; have b0 := cell_lt c00; have b1 := cell_lt c10; have b2 := cell_lt c20)
        | fail)
    refine bodyPost_ret (v := .agg #[.int .i64 0, .int .i64 0, .bool false]) (by simp [results, Try.results36, go_sem, c20, c21, c22]) rfl ⟨rfl, ?_⟩
    exact (((K0.out.trans kk).setCell (by simp; try omega) _).setCell (by simp; try omega) _).setCell (by simp; try omega) _
  cases t
  · have HZ := Lib.hid (valid_some HE2.out)
    rw [tripV (show lessX a b _ c d _ = (0, 0, false) from by rw [lessX, if_pos ⟨HE1.out, HE2.out⟩, lessI, if_pos (.inr HZ.out)])]
    go_enter Try.func36, Try.ntmps36
    go_upto_region 1 with (fail)
    rw [← HW.out]
    go_wp2_with (first
        | (go_at_call 83; (with_reducible refine (rvalid_b _ _ _ _ HE1.out _).mono ?_); rintro e w1 ⟨rfl, hk⟩; replace kk := (by first | with_reducible exact kk.trans hk | with_reducible exact (kk.alloc _).trans hk | with_reducible exact kk.drew.trans hk | with_reducible exact (kk.drew.alloc _).trans hk | with_reducible exact (kk.alloc _).drew.trans hk | with_reducible exact ((kk.alloc _).alloc _).trans hk | with_reducible exact ((kk.drew.alloc _).alloc _).trans hk | fail); obtain ⟨c00, c01, c02, c10, c11, c12, c20, f20, c21, f21, c22, f22⟩ := BR.out _ kk; have b0 := cell_lt c00; have b1 := cell_lt c10; have b2 := cell_lt c20)
        | (go_at_call 83; (with_reducible refine (rvalid_b _ _ _ _ HE2.out _).mono ?_); rintro e w1 ⟨rfl, hk⟩; replace kk := (by first | with_reducible exact kk.trans hk | with_reducible exact (kk.alloc _).trans hk | with_reducible exact kk.drew.trans hk | with_reducible exact (kk.drew.alloc _).trans hk | with_reducible exact (kk.alloc _).drew.trans hk | with_reducible exact ((kk.alloc _).alloc _).trans hk | with_reducible exact ((kk.drew.alloc _).alloc _).trans hk | fail); obtain ⟨c00, c01, c02, c10, c11, c12, c20, f20, c21, f21, c22, f22⟩ := BR.out _ kk; have b0 := cell_lt c00; have b1 := cell_lt c10; have b2 := cell_lt c20)
        | fail)
    refine bodyPost_ret (v := .agg #[.int .i64 0, .int .i64 0, .bool false]) (by simp [results, Try.results36, go_sem, c20, c21, c22]) rfl ⟨rfl, ?_⟩
    exact (((K0.out.trans kk).setCell (by simp; try omega) _).setCell (by simp; try omega) _).setCell (by simp; try omega) _
  have HX : RowKit.Hid (lessX a b true c d true = spI (max (a - d) 0) (b - c)) := Lib.hid (by rw [lessX, if_pos ⟨HE1.out, HE2.out⟩, lessI, if_neg (by simp [empB])])
  rw [show (.agg #[.int .i64 (lessX a b true c d true).1, .int .i64 (lessX a b true c d true).2.1, .bool (lessX a b true c d true).2.2] : Value) = .agg #[.int .i64 (spI (max (a - d) 0) (b - c)).1, .int .i64 (spI (max (a - d) 0) (b - c)).2.1, .bool (spI (max (a - d) 0) (b - c)).2.2] by rw [HX.out]]
  obtain ⟨u, hu⟩ : ∃ u, u = max (a - d) 0 := ⟨_, rfl⟩
  obtain ⟨v, hv⟩ : ∃ v, v = b - c := ⟨_, rfl⟩
  rw [← hu, ← hv]
  obtain ⟨x, hx⟩ : ∃ x, x = spI u v := ⟨_, rfl⟩
  have HC : RowKit.Hid (∀ W, Calls Try.prog 72 #[.int .i64 u, .int .i64 v] W fun e w' => e = .returned (.agg #[.int .i64 x.1, .int .i64 x.2.1, .bool x.2.2]) ∧ Kept W w') := Lib.hid (fun W => by rw [hx]; exact span_any u v W)
  rw [← hx]
  clear hx
  have hw1 : IntKind.i64.wrap (a - d) = a - d := IntWalk.i64_in _ (by omega)
  have hw2 : IntKind.i64.wrap (b - c) = b - c := IntWalk.i64_in _ (by omega)
  rcases Int.lt_or_le 0 (a - d) with h3 | h3
  case' inl => replace hu : u = a - d := by omega
  case' inr => replace hu : u = 0 := by omega
  all_goals
    subst hu hv
    go_enter Try.func36, Try.ntmps36
    go_upto_region 1 with (fail)
    rw [← HW.out]
    go_wp2_with (first
        | (go_at_call 83; (with_reducible refine (rvalid_b _ _ _ _ HE1.out _).mono ?_); rintro e w1 ⟨rfl, hk⟩; replace kk := (by first | with_reducible exact kk.trans hk | with_reducible exact (kk.alloc _).trans hk | with_reducible exact kk.drew.trans hk | with_reducible exact (kk.drew.alloc _).trans hk | with_reducible exact (kk.alloc _).drew.trans hk | with_reducible exact ((kk.alloc _).alloc _).trans hk | with_reducible exact ((kk.drew.alloc _).alloc _).trans hk | fail); obtain ⟨c00, c01, c02, c10, c11, c12, c20, f20, c21, f21, c22, f22⟩ := BR.out _ kk; have b0 := cell_lt c00; have b1 := cell_lt c10; have b2 := cell_lt c20)
        | (go_at_call 83; (with_reducible refine (rvalid_b _ _ _ _ HE2.out _).mono ?_); rintro e w1 ⟨rfl, hk⟩; replace kk := (by first | with_reducible exact kk.trans hk | with_reducible exact (kk.alloc _).trans hk | with_reducible exact kk.drew.trans hk | with_reducible exact (kk.drew.alloc _).trans hk | with_reducible exact (kk.alloc _).drew.trans hk | with_reducible exact ((kk.alloc _).alloc _).trans hk | with_reducible exact ((kk.drew.alloc _).alloc _).trans hk | fail); obtain ⟨c00, c01, c02, c10, c11, c12, c20, f20, c21, f21, c22, f22⟩ := BR.out _ kk; have b0 := cell_lt c00; have b1 := cell_lt c10; have b2 := cell_lt c20)
        | (go_at_call 72; refine (HC.out _).mono ?_; rintro e w1 ⟨rfl, hk⟩; replace kk := (by first | with_reducible exact kk.trans hk | with_reducible exact (kk.alloc _).trans hk | with_reducible exact kk.drew.trans hk | with_reducible exact (kk.drew.alloc _).trans hk | with_reducible exact (kk.alloc _).drew.trans hk | with_reducible exact ((kk.alloc _).alloc _).trans hk | with_reducible exact ((kk.drew.alloc _).alloc _).trans hk | fail); obtain ⟨c00, c01, c02, c10, c11, c12, c20, f20, c21, f21, c22, f22⟩ := BR.out _ kk; have b0 := cell_lt c00; have b1 := cell_lt c10; have b2 := cell_lt c20)
        | fail)
    refine bodyPost_ret (v := .agg #[.int .i64 x.1, .int .i64 x.2.1, .bool x.2.2]) (by simp [results, Try.results36, go_sem, c20, c21, c22]) rfl ⟨rfl, ?_⟩
    exact (((K0.out.trans kk).setCell (by simp; try omega) _).setCell (by simp; try omega) _).setCell (by simp; try omega) _
end Go.Proofs.Ytjaicilnlgjdcaa
