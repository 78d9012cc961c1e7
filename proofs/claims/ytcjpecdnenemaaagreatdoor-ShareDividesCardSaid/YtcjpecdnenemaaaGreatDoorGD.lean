/-
  The reference's Mul.
-/
import Derived.Test.YtcjpecdnenemaaaGreatDoorGC
import Derived.Deep.RegionWith
import Derived.IntWalk
namespace Go.Proofs.YtcjpecdnenemaaaGreatDoor
set_option linter.unusedVariables false
open Go.RowKit Go.Shelf

theorem neg_div (Y : Int) (h : Y < 0) : wrap64 (-Int.tdiv 1000000000000 Y) = 1000000000000 / -Y := by
  have e : -Int.tdiv 1000000000000 Y = 1000000000000 / -Y := by rw [← Int.tdiv_neg, Int.tdiv_eq_ediv_of_nonneg (by omega)]
  have b1 : 0 ≤ 1000000000000 / -Y := Int.ediv_nonneg (by omega) (by omega)
  have b2 : 1000000000000 / -Y ≤ 1000000000000 := Int.ediv_le_self _ (by omega)
  rw [e]
  unfold wrap64
  omega

theorem rmul_bad (an ad bn bd : Int) (h : (vld an ad && vld bn bd) = false) (w : World) :
    Calls Tryz.prog 32 #[.agg #[.int .i64 an, .int .i64 ad], .agg #[.int .i64 bn, .int .i64 bd]] w fun e w' => e = .returned (.tuple #[.agg #[.int .i64 0, .int .i64 0], .int .i64 1]) ∧ Kept w w' := by
  have H := Lib.hid h
  clear h
  go_enter Tryz.func32, Tryz.ntmps32
  go_wp2_with fail
  refine (both_bad _ _ _ _ H.out _).mono ?_
  rintro e w1 ⟨rfl, hk1⟩
  obtain ⟨hc1, hf1, hz1⟩ := hk1.facts
  go_wp2
  have e0 : w1.cell? ⟨w.heap.size + 1 + 1, 0, none⟩ = some (.int .i64 0) := by rw [hc1 _ _ (by first | (simp; done) | (simp; omega))]; simp [go_sem]
  have e1 : w1.cell? ⟨w.heap.size + 1 + 1, 1, none⟩ = some (.int .i64 0) := by rw [hc1 _ _ (by first | (simp; done) | (simp; omega))]; simp [go_sem]
  refine bodyPost_ret (v := .tuple #[.agg #[.int .i64 0, .int .i64 0], .int .i64 1]) (by simp [results, Tryz.results32, go_sem, e0, e1]) rfl ⟨rfl, ?_⟩
  exact (((((Kept.refl _).alloc _).alloc _).alloc _).trans hk1 |>.setCell (by first | (simp; done) | (simp; omega)) _).setCell (by first | (simp; done) | (simp; omega)) _

set_option maxRecDepth 100000 in
set_option maxHeartbeats 1000000 in
theorem rmul_x0 (an ad bn bd X Y D E : Int) (h : vld an ad = true) (k : vld bn bd = true) (hX : an.tdiv (gcdI an bd) = X) (hY : bn.tdiv (gcdI bn ad) = Y) (hD : ad / gcdI bn ad = D) (hE : bd / gcdI an bd = E)
    (hg1 : 1 ≤ gcdI an bd) (hh1 : 1 ≤ gcdI bn ad) (x1 : -1000000000000 ≤ X) (x2 : X ≤ 1000000000000) (y1 : -1000000000000 ≤ Y) (y2 : Y ≤ 1000000000000) (d1 : 1 ≤ D) (d2 : D ≤ 1000000) (e1 : 1 ≤ E) (e2 : E ≤ 1000000) (m1 : 1 ≤ D * E) (m2 : D * E ≤ 1000000000000)
    (hx0 : (X != 0) = false) (xy1 : -1000000000000 ≤ X * Y) (xy2 : X * Y ≤ 1000000000000) (w : World) :
    Calls Tryz.prog 32 #[.agg #[.int .i64 an, .int .i64 ad], .agg #[.int .i64 bn, .int .i64 bd]] w fun e w' => e = .returned (.tuple #[.agg #[.int .i64 (okL (lowF (X * Y) (D * E))).1, .int .i64 (okL (lowF (X * Y) (D * E))).2.1], .int .i64 (okL (lowF (X * Y) (D * E))).2.2]) ∧ Kept w w' := by
  obtain ⟨⟨a1, a2⟩, a3, a4⟩ := vld_bd h
  obtain ⟨⟨b1, b2⟩, b3, b4⟩ := vld_bd k
  have hgn : ¬ gcdI an bd = 0 := by omega
  have hhn : ¬ gcdI bn ad = 0 := by omega
  generalize hR : okL (lowF (X * Y) (D * E)) = R
  have HR := Lib.hid hR
  clear hR
  go_enter Tryz.func32, Tryz.ntmps32
  go_wp2_with fail
  refine (both_ok _ _ _ _ h k _).mono ?_
  rintro e w1 ⟨rfl, hk1⟩
  obtain ⟨hc1, hf1, hz1⟩ := hk1.facts
  go_wp2_with (go_at_call 97; refine (rdivisor_any _ _ (by omega) (by omega) (by omega) (by omega) _).mono ?_; rintro e w' ⟨rfl, n1, rfl⟩)
  have q1 := Lib.hid (IntWalk.i64_in (X * Y) (by omega))
  have q2 := Lib.hid (IntWalk.i64_in D (by omega))
  have q3 := Lib.hid (IntWalk.i64_in E (by omega))
  have q4 := Lib.hid (IntWalk.i64_in (D * E) (by omega))
  have q5 := Lib.hid (show ad.tdiv (gcdI bn ad) = D by rw [Int.tdiv_eq_ediv_of_nonneg (by omega), hD])
  have q6 := Lib.hid (show bd.tdiv (gcdI an bd) = E by rw [Int.tdiv_eq_ediv_of_nonneg (by omega), hE])
  go_region_with (go_at_call 87; rw [q5.out, q6.out, q1.out, q2.out, q3.out, q4.out]; refine (rlowest_any _ _ (by omega) (by omega) (by omega) (by omega) _).mono ?_; rw [HR.out]; rintro e w2 ⟨rfl, hk2'⟩; have hk2 := (hk1.drewN _).trans hk2'; obtain ⟨hc2, hf2, hz2⟩ := hk2.facts)
  all_goals
    go_wp2
    have e0 : w2.cell? ⟨w.heap.size + 1 + 1, 0, none⟩ = some (.int .i64 0) := by rw [hc2 _ _ (by first | (simp; done) | (simp; omega))]; simp [go_sem]
    have e1 : w2.cell? ⟨w.heap.size + 1 + 1, 1, none⟩ = some (.int .i64 0) := by rw [hc2 _ _ (by first | (simp; done) | (simp; omega))]; simp [go_sem]
    refine bodyPost_ret (v := .tuple #[.agg #[.int .i64 R.1, .int .i64 R.2.1], .int .i64 R.2.2]) (by simp [results, Tryz.results32, go_sem, e0, e1]) rfl ⟨rfl, ?_⟩
    exact (((((Kept.refl _).alloc _).alloc _).alloc _).trans hk2 |>.setCell (by first | (simp; done) | (simp; omega)) _).setCell (by first | (simp; done) | (simp; omega)) _
set_option maxRecDepth 100000 in
set_option maxHeartbeats 1000000 in
theorem rmul_y0 (an ad bn bd X Y D E : Int) (h : vld an ad = true) (k : vld bn bd = true) (hX : an.tdiv (gcdI an bd) = X) (hY : bn.tdiv (gcdI bn ad) = Y) (hD : ad / gcdI bn ad = D) (hE : bd / gcdI an bd = E)
    (hg1 : 1 ≤ gcdI an bd) (hh1 : 1 ≤ gcdI bn ad) (x1 : -1000000000000 ≤ X) (x2 : X ≤ 1000000000000) (y1 : -1000000000000 ≤ Y) (y2 : Y ≤ 1000000000000) (d1 : 1 ≤ D) (d2 : D ≤ 1000000) (e1 : 1 ≤ E) (e2 : E ≤ 1000000) (m1 : 1 ≤ D * E) (m2 : D * E ≤ 1000000000000)
    (hx0 : (X != 0) = true) (hy0 : (Y != 0) = false) (xy1 : -1000000000000 ≤ X * Y) (xy2 : X * Y ≤ 1000000000000) (w : World) :
    Calls Tryz.prog 32 #[.agg #[.int .i64 an, .int .i64 ad], .agg #[.int .i64 bn, .int .i64 bd]] w fun e w' => e = .returned (.tuple #[.agg #[.int .i64 (okL (lowF (X * Y) (D * E))).1, .int .i64 (okL (lowF (X * Y) (D * E))).2.1], .int .i64 (okL (lowF (X * Y) (D * E))).2.2]) ∧ Kept w w' := by
  obtain ⟨⟨a1, a2⟩, a3, a4⟩ := vld_bd h
  obtain ⟨⟨b1, b2⟩, b3, b4⟩ := vld_bd k
  have hgn : ¬ gcdI an bd = 0 := by omega
  have hhn : ¬ gcdI bn ad = 0 := by omega
  generalize hR : okL (lowF (X * Y) (D * E)) = R
  have HR := Lib.hid hR
  clear hR
  go_enter Tryz.func32, Tryz.ntmps32
  go_wp2_with fail
  refine (both_ok _ _ _ _ h k _).mono ?_
  rintro e w1 ⟨rfl, hk1⟩
  obtain ⟨hc1, hf1, hz1⟩ := hk1.facts
  go_wp2_with (go_at_call 97; refine (rdivisor_any _ _ (by omega) (by omega) (by omega) (by omega) _).mono ?_; rintro e w' ⟨rfl, n1, rfl⟩)
  have q1 := Lib.hid (IntWalk.i64_in (X * Y) (by omega))
  have q2 := Lib.hid (IntWalk.i64_in D (by omega))
  have q3 := Lib.hid (IntWalk.i64_in E (by omega))
  have q4 := Lib.hid (IntWalk.i64_in (D * E) (by omega))
  have q5 := Lib.hid (show ad.tdiv (gcdI bn ad) = D by rw [Int.tdiv_eq_ediv_of_nonneg (by omega), hD])
  have q6 := Lib.hid (show bd.tdiv (gcdI an bd) = E by rw [Int.tdiv_eq_ediv_of_nonneg (by omega), hE])
  go_region_with (go_at_call 87; rw [q5.out, q6.out, q1.out, q2.out, q3.out, q4.out]; refine (rlowest_any _ _ (by omega) (by omega) (by omega) (by omega) _).mono ?_; rw [HR.out]; rintro e w2 ⟨rfl, hk2'⟩; have hk2 := (hk1.drewN _).trans hk2'; obtain ⟨hc2, hf2, hz2⟩ := hk2.facts)
  all_goals
    go_wp2
    have e0 : w2.cell? ⟨w.heap.size + 1 + 1, 0, none⟩ = some (.int .i64 0) := by rw [hc2 _ _ (by first | (simp; done) | (simp; omega))]; simp [go_sem]
    have e1 : w2.cell? ⟨w.heap.size + 1 + 1, 1, none⟩ = some (.int .i64 0) := by rw [hc2 _ _ (by first | (simp; done) | (simp; omega))]; simp [go_sem]
    refine bodyPost_ret (v := .tuple #[.agg #[.int .i64 R.1, .int .i64 R.2.1], .int .i64 R.2.2]) (by simp [results, Tryz.results32, go_sem, e0, e1]) rfl ⟨rfl, ?_⟩
    exact (((((Kept.refl _).alloc _).alloc _).alloc _).trans hk2 |>.setCell (by first | (simp; done) | (simp; omega)) _).setCell (by first | (simp; done) | (simp; omega)) _
set_option maxRecDepth 100000 in
set_option maxHeartbeats 1000000 in
theorem rmul_n (an ad bn bd X Y D E : Int) (h : vld an ad = true) (k : vld bn bd = true) (hX : an.tdiv (gcdI an bd) = X) (hY : bn.tdiv (gcdI bn ad) = Y) (hD : ad / gcdI bn ad = D) (hE : bd / gcdI an bd = E)
    (hg1 : 1 ≤ gcdI an bd) (hh1 : 1 ≤ gcdI bn ad) (x1 : -1000000000000 ≤ X) (x2 : X ≤ 1000000000000) (y1 : -1000000000000 ≤ Y) (y2 : Y ≤ 1000000000000) (d1 : 1 ≤ D) (d2 : D ≤ 1000000) (e1 : 1 ≤ E) (e2 : E ≤ 1000000) (m1 : 1 ≤ D * E) (m2 : D * E ≤ 1000000000000)
    (hx0 : (X != 0) = true) (hy0 : (Y != 0) = true) (ax ay : Int) (hax : (0 ≤ X ∧ X = ax) ∨ (X < 0 ∧ -X = ax)) (hay : (1 ≤ Y ∧ Y = ay) ∨ (Y < 0 ∧ -Y = ay)) (ytest : ¬ (1000000000000 / ay < ax)) (xy1 : -1000000000000 ≤ X * Y) (xy2 : X * Y ≤ 1000000000000) (w : World) :
    Calls Tryz.prog 32 #[.agg #[.int .i64 an, .int .i64 ad], .agg #[.int .i64 bn, .int .i64 bd]] w fun e w' => e = .returned (.tuple #[.agg #[.int .i64 (okL (lowF (X * Y) (D * E))).1, .int .i64 (okL (lowF (X * Y) (D * E))).2.1], .int .i64 (okL (lowF (X * Y) (D * E))).2.2]) ∧ Kept w w' := by
  obtain ⟨⟨a1, a2⟩, a3, a4⟩ := vld_bd h
  obtain ⟨⟨b1, b2⟩, b3, b4⟩ := vld_bd k
  have hgn : ¬ gcdI an bd = 0 := by omega
  have hhn : ¬ gcdI bn ad = 0 := by omega
  generalize hR : okL (lowF (X * Y) (D * E)) = R
  have HR := Lib.hid hR
  clear hR
  rcases hax with ⟨sx, hax⟩ | ⟨sx, hax⟩
  all_goals
    rcases hay with ⟨sy, hay⟩ | ⟨sy, hay⟩
    all_goals
      subst ax
      subst ay
      first | (have e9 := neg_div Y (by omega); rw [← e9] at ytest; clear e9) | skip
      go_enter Tryz.func32, Tryz.ntmps32
      go_wp2_with fail
      refine (both_ok _ _ _ _ h k _).mono ?_
      rintro e w1 ⟨rfl, hk1⟩
      obtain ⟨hc1, hf1, hz1⟩ := hk1.facts
      go_wp2_with (go_at_call 97; refine (rdivisor_any _ _ (by omega) (by omega) (by omega) (by omega) _).mono ?_; rintro e w' ⟨rfl, n1, rfl⟩)
      have q1 := Lib.hid (IntWalk.i64_in (X * Y) (by omega))
      have q2 := Lib.hid (IntWalk.i64_in D (by omega))
      have q3 := Lib.hid (IntWalk.i64_in E (by omega))
      have q4 := Lib.hid (IntWalk.i64_in (D * E) (by omega))
      have q5 := Lib.hid (show ad.tdiv (gcdI bn ad) = D by rw [Int.tdiv_eq_ediv_of_nonneg (by omega), hD])
      have q6 := Lib.hid (show bd.tdiv (gcdI an bd) = E by rw [Int.tdiv_eq_ediv_of_nonneg (by omega), hE])
      go_region_with (go_at_call 87; rw [q5.out, q6.out, q1.out, q2.out, q3.out, q4.out]; refine (rlowest_any _ _ (by omega) (by omega) (by omega) (by omega) _).mono ?_; rw [HR.out]; rintro e w2 ⟨rfl, hk2'⟩; have hk2 := (hk1.drewN _).trans hk2'; obtain ⟨hc2, hf2, hz2⟩ := hk2.facts)
      all_goals
        go_wp2
        have e0 : w2.cell? ⟨w.heap.size + 1 + 1, 0, none⟩ = some (.int .i64 0) := by rw [hc2 _ _ (by first | (simp; done) | (simp; omega))]; simp [go_sem]
        have e1 : w2.cell? ⟨w.heap.size + 1 + 1, 1, none⟩ = some (.int .i64 0) := by rw [hc2 _ _ (by first | (simp; done) | (simp; omega))]; simp [go_sem]
        refine bodyPost_ret (v := .tuple #[.agg #[.int .i64 R.1, .int .i64 R.2.1], .int .i64 R.2.2]) (by simp [results, Tryz.results32, go_sem, e0, e1]) rfl ⟨rfl, ?_⟩
        exact (((((Kept.refl _).alloc _).alloc _).alloc _).trans hk2 |>.setCell (by first | (simp; done) | (simp; omega)) _).setCell (by first | (simp; done) | (simp; omega)) _
set_option maxRecDepth 100000 in
set_option maxHeartbeats 1000000 in
theorem rmul_big (an ad bn bd X Y D E : Int) (h : vld an ad = true) (k : vld bn bd = true) (hX : an.tdiv (gcdI an bd) = X) (hY : bn.tdiv (gcdI bn ad) = Y) (hD : ad / gcdI bn ad = D) (hE : bd / gcdI an bd = E)
    (hg1 : 1 ≤ gcdI an bd) (hh1 : 1 ≤ gcdI bn ad) (x1 : -1000000000000 ≤ X) (x2 : X ≤ 1000000000000) (y1 : -1000000000000 ≤ Y) (y2 : Y ≤ 1000000000000) (d1 : 1 ≤ D) (d2 : D ≤ 1000000) (e1 : 1 ≤ E) (e2 : E ≤ 1000000) (m1 : 1 ≤ D * E) (m2 : D * E ≤ 1000000000000)
    (hx0 : (X != 0) = true) (hy0 : (Y != 0) = true) (ax ay : Int) (hax : (0 ≤ X ∧ X = ax) ∨ (X < 0 ∧ -X = ax)) (hay : (1 ≤ Y ∧ Y = ay) ∨ (Y < 0 ∧ -Y = ay)) (ytest : 1000000000000 / ay < ax) (w : World) :
    Calls Tryz.prog 32 #[.agg #[.int .i64 an, .int .i64 ad], .agg #[.int .i64 bn, .int .i64 bd]] w fun e w' => e = .returned (.tuple #[.agg #[.int .i64 0, .int .i64 0], .int .i64 2]) ∧ Kept w w' := by
  obtain ⟨⟨a1, a2⟩, a3, a4⟩ := vld_bd h
  obtain ⟨⟨b1, b2⟩, b3, b4⟩ := vld_bd k
  have hgn : ¬ gcdI an bd = 0 := by omega
  have hhn : ¬ gcdI bn ad = 0 := by omega
  rcases hax with ⟨sx, hax⟩ | ⟨sx, hax⟩
  all_goals
    rcases hay with ⟨sy, hay⟩ | ⟨sy, hay⟩
    all_goals
      subst ax
      subst ay
      first | (have e9 := neg_div Y (by omega); rw [← e9] at ytest; clear e9) | skip
      go_enter Tryz.func32, Tryz.ntmps32
      go_wp2_with fail
      refine (both_ok _ _ _ _ h k _).mono ?_
      rintro e w1 ⟨rfl, hk1⟩
      obtain ⟨hc1, hf1, hz1⟩ := hk1.facts
      go_wp2_with (go_at_call 97; refine (rdivisor_any _ _ (by omega) (by omega) (by omega) (by omega) _).mono ?_; rintro e w' ⟨rfl, n1, rfl⟩)
      have e0 : w1.cell? ⟨w.heap.size + 1 + 1, 0, none⟩ = some (.int .i64 0) := by rw [hc1 _ _ (by first | (simp; done) | (simp; omega))]; simp [go_sem]
      have e1 : w1.cell? ⟨w.heap.size + 1 + 1, 1, none⟩ = some (.int .i64 0) := by rw [hc1 _ _ (by first | (simp; done) | (simp; omega))]; simp [go_sem]
      refine bodyPost_ret (v := .tuple #[.agg #[.int .i64 0, .int .i64 0], .int .i64 2]) (by simp [results, Tryz.results32, go_sem, e0, e1]) rfl ⟨rfl, ?_⟩
      exact ((((((Kept.refl _).alloc _).alloc _).alloc _).trans hk1).drewN _ |>.setCell (by first | (simp; done) | (simp; omega)) _).setCell (by first | (simp; done) | (simp; omega)) _

theorem rmul_any (an ad bn bd : Int) (w : World) :
    Calls Tryz.prog 32 #[.agg #[.int .i64 an, .int .i64 ad], .agg #[.int .i64 bn, .int .i64 bd]] w fun e w' => e = .returned (.tuple #[.agg #[.int .i64 (mulS an ad bn bd).1, .int .i64 (mulS an ad bn bd).2.1], .int .i64 (mulS an ad bn bd).2.2]) ∧ Kept w w' := by
  by_cases h : (vld an ad && vld bn bd) = true
  · have hs : mulS an ad bn bd = okL (mulF an ad bn bd) := by simp only [mulS, if_pos h]
    rw [hs]
    rw [Bool.and_eq_true] at h
    obtain ⟨h, k⟩ := h
    obtain ⟨X, Y, g, h', D, E, hg, hh, hX, hY, hD, hE, ⟨hg1, hh1⟩, ⟨x1, x2⟩, ⟨y1, y2⟩, ⟨d1, d2⟩, ⟨e1, e2⟩, ⟨m1, m2⟩, hm⟩ := mulF_facts (vld_bd h) (vld_bd k)
    subst hg hh
    rw [hm]
    by_cases x0 : X = 0
    · have xy : X * Y = 0 := by rw [x0, Int.zero_mul]
      have xm : max Y (-Y) * max X (-X) = 0 := by rw [x0]; simp
      rw [if_neg (by omega)]
      exact rmul_x0 _ _ _ _ X Y D E h k hX hY hD hE hg1 hh1 x1 x2 y1 y2 d1 d2 e1 e2 m1 m2 (by simp [x0]) (by omega) (by omega) w
    by_cases y0 : Y = 0
    · have xy : X * Y = 0 := by rw [y0, Int.mul_zero]
      rw [if_neg (by omega)]
      exact rmul_y0 _ _ _ _ X Y D E h k hX hY hD hE hg1 hh1 x1 x2 y1 y2 d1 d2 e1 e2 m1 m2 (by simp [x0]) (by simp [y0]) (by omega) (by omega) w
    have ymax : 1 ≤ max Y (-Y) := by omega
    by_cases hle : max Y (-Y) * max X (-X) > 1000000000000
    · rw [if_pos ⟨y0, hle⟩]
      exact rmul_big _ _ _ _ X Y D E h k hX hY hD hE hg1 hh1 x1 x2 y1 y2 d1 d2 e1 e2 m1 m2 (by simp [x0]) (by simp [y0]) (max X (-X)) (max Y (-Y)) (by omega) (by omega) ((gt_div ymax).2 hle) w
    · rw [if_neg (by omega)]
      have xy := abs_mul_bd (Int.not_lt.1 hle)
      exact rmul_n _ _ _ _ X Y D E h k hX hY hD hE hg1 hh1 x1 x2 y1 y2 d1 d2 e1 e2 m1 m2 (by simp [x0]) (by simp [y0]) (max X (-X)) (max Y (-Y)) (by omega) (by omega) (by rw [gt_div ymax]; exact hle) xy.1 xy.2 w
  · have h' : (vld an ad && vld bn bd) = false := by simpa using h
    have hs : mulS an ad bn bd = (0, 0, 1) := by simp only [mulS, if_neg h]
    rw [hs]
    exact rmul_bad an ad bn bd h' w
end Go.Proofs.YtcjpecdnenemaaaGreatDoor
