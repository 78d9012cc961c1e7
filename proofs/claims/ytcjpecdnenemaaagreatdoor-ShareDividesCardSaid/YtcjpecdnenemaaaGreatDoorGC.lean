/-
  The reference's fractions: within, divisor, Valid, lowest, Norm, both, Add, Sub, Mul.
  The reference's Add, Sub, Mul, Compare, Floor, Ceil; the program's Floor, Ceil.
-/
import Derived.Test.YtcjpecdnenemaaaGreatDoorGA
import Derived.Test.YtcjpecdnenemaaaGreatDoorGB
namespace Go.Proofs.YtcjpecdnenemaaaGreatDoor
set_option linter.unusedVariables false
open Go.RowKit Go.Shelf

theorem rwithin_any (n lo hi : Int) (w : World) :
    Calls Tryz.prog 86 #[.int .i64 n, .int .i64 lo, .int .i64 hi] w fun e w' => e = .returned (.bool (inB n lo hi)) ∧ w = w' := by
  by_cases h1 : lo ≤ n
  · by_cases h2 : n ≤ hi
    · go_enter Tryz.func86, Tryz.ntmps86
      go_wp2
      go_ret
      exact ⟨ret_bool (by rw [Bool.eq_iff_iff, inB_iff]; simp; omega), rfl⟩
    · go_enter Tryz.func86, Tryz.ntmps86
      go_wp2
      go_ret
      exact ⟨ret_bool (by rw [Bool.eq_iff_iff, inB_iff]; simp; omega), rfl⟩
  · go_enter Tryz.func86, Tryz.ntmps86
    go_wp2
    go_ret
    exact ⟨ret_bool (by rw [Bool.eq_iff_iff, inB_iff]; simp; omega), rfl⟩

theorem rdivisor_any (a b : Int) (h0 : -9223372036854775808 < a) (h1 : a ≤ 9223372036854775807) (h2 : -9223372036854775808 < b) (h3 : b ≤ 9223372036854775807) (w : World) :
    Calls Tryz.prog 97 #[.int .i64 a, .int .i64 b] w fun e w' => e = .returned (.int .i64 (gcdI a b)) ∧ ∃ n, w.drewN n = w' := by
  go_enter Tryz.func97, Tryz.ntmps97
  go_wp2
  go_loopw [0, 1] (fun u v wr => ∃ x y : Int, u = .int .i64 x ∧ v = .int .i64 y ∧ -9223372036854775808 < x ∧ x ≤ 9223372036854775807 ∧ -9223372036854775808 < y ∧ y ≤ 9223372036854775807 ∧ gcdI x y = gcdI a b ∧ ∃ n, w.drewN n = wr) (fun _ v _ => (intOf v).natAbs)
  case atStart => exact ⟨a, b, rfl, rfl, h0, h1, h2, h3, rfl, 0, rfl⟩
  case round =>
    obtain ⟨x, y, rfl, rfl, g0, g1, g2, g3, hg, n, rfl⟩ := hrel
    have Hg := Lib.hid hg
    clear hg
    by_cases hy : y = 0
    · subst hy
      go_wp2
      all_goals
        go_ret
        exact ⟨ret_int (by rw [← Hg.out, gcdI_zero]; omega), n, rfl⟩
    · have hy' : (y == 0) = false := by simp [hy]
      have hy2 : (y != 0) = true := by simp [hy]
      have hlt := tmod_lt (a := x) hy
      have Hs := Lib.hid ((gcdI_step x y).trans Hg.out)
      have hw : wrap64 (x.tmod y) = x.tmod y := by unfold wrap64; omega
      go_wp2
      go_roundw
      case rel =>
        first
          | exact ⟨y, x.tmod y, rfl, by first | rfl | rw [hw], by omega, by omega, by omega, by omega, Hs.out, n, rfl⟩
          | (repeat apply Exists.intro); exact ⟨⟨y, x.tmod y, rfl, by first | rfl | rw [hw], by omega, by omega, by omega, by omega, Hs.out, n, rfl⟩, rfl⟩
      case measure => simpa [intOf, hw] using hlt

theorem rvalid_any (n d : Int) (w : World) :
    Calls Tryz.prog 91 #[.agg #[.int .i64 n, .int .i64 d]] w fun e w' => e = .returned (.bool (vld n d)) ∧ Kept w w' := by
  by_cases h1 : inB d 1 1000000 = true
  · by_cases h2 : inB n (-1000000000000) 1000000000000 = true
    · have b1 := inB_iff.1 h1
      have b2 := inB_iff.1 h2
      obtain ⟨b1l, b1h⟩ := b1
      obtain ⟨b2l, b2h⟩ := b2
      go_enter Tryz.func91, Tryz.ntmps91
      go_wp2_with (first | (go_at_call 86; refine (rwithin_any _ _ _ _).mono ?_; rintro e w' ⟨rfl, rfl⟩) | (go_at_call 97; refine (rdivisor_any _ _ (by omega) (by omega) (by omega) (by omega) _).mono ?_; rintro e w' ⟨rfl, n, rfl⟩))
      go_ret
      exact ⟨ret_bool (by simp [vld, h1, h2]), ((Kept.refl _).alloc _).drewN _⟩
    · have h2' : inB n (-1000000000000) 1000000000000 = false := by simpa using h2
      go_enter Tryz.func91, Tryz.ntmps91
      go_wp2_with (first | (go_at_call 86; refine (rwithin_any _ _ _ _).mono ?_; rintro e w' ⟨rfl, rfl⟩))
      go_ret
      exact ⟨ret_bool (by simp [vld, h2']), (Kept.refl _).alloc _⟩
  · have h1' : inB d 1 1000000 = false := by simpa using h1
    go_enter Tryz.func91, Tryz.ntmps91
    go_wp2_with (first | (go_at_call 86; refine (rwithin_any _ _ _ _).mono ?_; rintro e w' ⟨rfl, rfl⟩))
    go_ret
    exact ⟨ret_bool (by simp [vld, h1']), (Kept.refl _).alloc _⟩

theorem rlowest_some (n d x y : Int) (h0 : -9223372036854775808 < n) (h1 : n ≤ 9223372036854775807) (h2 : 1 ≤ d) (h3 : d ≤ 9223372036854775807)
    (hr : lowF n d = some (x, y)) (w : World) :
    Calls Tryz.prog 87 #[.int .i64 n, .int .i64 d] w fun e w' => e = .returned (.tuple #[.agg #[.int .i64 x, .int .i64 y], .int .i64 0]) ∧ Kept w w' := by
  have hg := gcdI_bd (a := n) (b := d) (by omega)
  have hg2 := gcdI_le (a := n) (b := d) (by omega)
  obtain ⟨hv, hx, hy⟩ := lowF_some hr
  clear hr
  rw [if_neg (by omega)] at hx hy
  have bx := tdiv_bd n (gcdI n d) h0 h1
  have bY := tdiv_bd d (gcdI n d) (by omega) h3
  rw [hx] at bx
  rw [hy] at bY
  have hne : ¬ (gcdI n d = 0) := by omega
  obtain ⟨bx1, bx2⟩ := bx
  obtain ⟨by1, by2⟩ := bY
  have hy2 : d / gcdI n d = y := by rw [← hy, Int.tdiv_eq_ediv_of_nonneg (by omega)]
  go_enter Tryz.func87, Tryz.ntmps87
  go_wp2_with (first | (go_at_call 97; refine (rdivisor_any _ _ (by omega) (by omega) (by omega) (by omega) _).mono ?_; rintro e w' ⟨rfl, m, rfl⟩))
  go_region
  go_wp2_with (first | (go_at_call 91; refine (rvalid_any _ _ _).mono ?_; rintro e w1 ⟨rfl, hk⟩; obtain ⟨hc1, hf1, hz1⟩ := hk.facts))
  have e0 : w1.cell? ⟨w.heap.size, 0, none⟩ = some (.int .i64 0) := by rw [hc1 _ _ (by first | (simp; done) | (simp; omega))]; simp [go_sem]
  have e1 : w1.cell? ⟨w.heap.size, 1, none⟩ = some (.int .i64 0) := by rw [hc1 _ _ (by first | (simp; done) | (simp; omega))]; simp [go_sem]
  refine bodyPost_ret (v := .tuple #[.agg #[.int .i64 x, .int .i64 y], .int .i64 0]) (by simp [results, Tryz.results87, go_sem, e0, e1]) rfl ⟨rfl, ?_⟩
  exact (((((Kept.refl _).alloc _).drewN _).alloc _).trans hk |>.setCell (by first | (simp; done) | (simp; omega)) _).setCell (by first | (simp; done) | (simp; omega)) _
theorem rlowest_none (n d : Int) (h0 : -9223372036854775808 < n) (h1 : n ≤ 9223372036854775807) (h2 : 1 ≤ d) (h3 : d ≤ 9223372036854775807)
    (hr : lowF n d = none) (w : World) :
    Calls Tryz.prog 87 #[.int .i64 n, .int .i64 d] w fun e w' => e = .returned (.tuple #[.agg #[.int .i64 0, .int .i64 0], .int .i64 2]) ∧ Kept w w' := by
  have hg := gcdI_bd (a := n) (b := d) (by omega)
  have hg2 := gcdI_le (a := n) (b := d) (by omega)
  have hv := lowF_none hr
  clear hr
  rw [if_neg (by omega)] at hv
  have bx := tdiv_bd n (gcdI n d) h0 h1
  have bY := tdiv_bd d (gcdI n d) (by omega) h3
  have hy2 : d / gcdI n d = d.tdiv (gcdI n d) := by rw [Int.tdiv_eq_ediv_of_nonneg (by omega)]
  generalize hx : n.tdiv (gcdI n d) = x at *
  generalize hy : d.tdiv (gcdI n d) = y at *
  have hne : ¬ (gcdI n d = 0) := by omega
  obtain ⟨bx1, bx2⟩ := bx
  obtain ⟨by1, by2⟩ := bY
  go_enter Tryz.func87, Tryz.ntmps87
  go_wp2_with (first | (go_at_call 97; refine (rdivisor_any _ _ (by omega) (by omega) (by omega) (by omega) _).mono ?_; rintro e w' ⟨rfl, m, rfl⟩))
  go_region
  go_wp2_with (first | (go_at_call 91; refine (rvalid_any _ _ _).mono ?_; rintro e w1 ⟨rfl, hk⟩; obtain ⟨hc1, hf1, hz1⟩ := hk.facts))
  have e0 : w1.cell? ⟨w.heap.size, 0, none⟩ = some (.int .i64 0) := by rw [hc1 _ _ (by first | (simp; done) | (simp; omega))]; simp [go_sem]
  have e1 : w1.cell? ⟨w.heap.size, 1, none⟩ = some (.int .i64 0) := by rw [hc1 _ _ (by first | (simp; done) | (simp; omega))]; simp [go_sem]
  refine bodyPost_ret (v := .tuple #[.agg #[.int .i64 0, .int .i64 0], .int .i64 2]) (by simp [results, Tryz.results87, go_sem, e0, e1]) rfl ⟨rfl, ?_⟩
  exact (((((Kept.refl _).alloc _).drewN _).alloc _).trans hk |>.setCell (by first | (simp; done) | (simp; omega)) _).setCell (by first | (simp; done) | (simp; omega)) _

theorem rlowest_any (n d : Int) (h0 : -9223372036854775808 < n) (h1 : n ≤ 9223372036854775807) (h2 : 1 ≤ d) (h3 : d ≤ 9223372036854775807) (w : World) :
    Calls Tryz.prog 87 #[.int .i64 n, .int .i64 d] w fun e w' => e = .returned (.tuple #[.agg #[.int .i64 (okL (lowF n d)).1, .int .i64 (okL (lowF n d)).2.1], .int .i64 (okL (lowF n d)).2.2]) ∧ Kept w w' := by
  rcases hr : lowF n d with _ | ⟨x, y⟩
  · exact rlowest_none n d h0 h1 h2 h3 hr w
  · exact rlowest_some n d x y h0 h1 h2 h3 hr w

theorem lowF_neg (n d : Int) (hd : d ≠ 0) : lowF (-n) (-d) = lowF n d := by
  have hg : gcdI (-n) (-d) = gcdI n d := by simp [gcdI]
  unfold lowF
  rw [hg]
  rcases Int.lt_or_lt_of_ne hd with h | h
  · have e1 : ¬ (-d < 0) := by omega
    simp only [if_pos h, if_neg e1, Int.neg_tdiv, Int.tdiv_neg]
  · have e1 : -d < 0 := by omega
    have e2 : ¬ (d < 0) := by omega
    simp only [if_pos e1, if_neg e2, Int.neg_tdiv, Int.tdiv_neg, Int.neg_neg]

theorem rnorm_any (n d : Int) (w : World) :
    Calls Tryz.prog 20 #[.int .i64 n, .int .i64 d] w fun e w' => e = .returned (.tuple #[.agg #[.int .i64 (normS n d).1, .int .i64 (normS n d).2.1], .int .i64 (normS n d).2.2]) ∧ Kept w w' := by
  by_cases h : d = 0
  · have hs : normS n d = (0, 0, 1) := by simp [normS, h]
    rw [hs]
    have hd : (d == 0) = true := by simp [h]
    clear h hs
    go_enter Tryz.func20, Tryz.ntmps20
    go_wp2_with (go_at_call 86; refine (rwithin_any _ _ _ _).mono ?_; rintro e w' ⟨rfl, rfl⟩)
    refine bodyPost_ret (v := .tuple #[.agg #[.int .i64 0, .int .i64 0], .int .i64 1]) (by simp [results, Tryz.results20, go_sem]) rfl ⟨rfl, ?_⟩
    exact (Kept.refl _).alloc _
  have hd : (d == 0) = false := by simp [h]
  by_cases h1 : inB n (-1000000000000000) 1000000000000000 = true
  · by_cases h2 : inB d (-1000000000000000) 1000000000000000 = true
    · have hs : normS n d = okL (lowF n d) := by simp [normS, h, h1, h2]
      rw [hs]
      have b1 := inB_iff.1 h1
      have b2 := inB_iff.1 h2
      by_cases hneg : d < 0
      · rw [← lowF_neg n d h]
        clear hs h
        generalize hR : okL (lowF (-n) (-d)) = R
        have HR := Lib.hid hR
        clear hR
        go_enter Tryz.func20, Tryz.ntmps20
        go_wp2_with (first | (go_at_call 86; refine (rwithin_any _ _ _ _).mono ?_; rintro e w' ⟨rfl, rfl⟩) | (go_at_call 87; refine (rlowest_any _ _ (by omega) (by omega) (by omega) (by omega) _).mono ?_; rintro e w1 ⟨rfl, hk⟩; obtain ⟨hc1, hf1, hz1⟩ := hk.facts))
        rw [← HR.out]
        have e0 : w1.cell? ⟨w.heap.size, 0, none⟩ = some (.int .i64 0) := by rw [hc1 _ _ (by first | (simp; done) | (simp; omega))]; simp [go_sem]
        have e1 : w1.cell? ⟨w.heap.size, 1, none⟩ = some (.int .i64 0) := by rw [hc1 _ _ (by first | (simp; done) | (simp; omega))]; simp [go_sem]
        refine bodyPost_ret (v := .tuple #[.agg #[.int .i64 (okL (lowF (-n) (-d))).1, .int .i64 (okL (lowF (-n) (-d))).2.1], .int .i64 (okL (lowF (-n) (-d))).2.2]) (by simp [results, Tryz.results20, go_sem, e0, e1]) rfl ⟨rfl, ?_⟩
        exact (((Kept.refl _).alloc _).trans hk |>.setCell (by first | (simp; done) | (simp; omega)) _).setCell (by first | (simp; done) | (simp; omega)) _
      · clear hs h
        have hpos : 1 ≤ d := by have : d ≠ 0 := by simpa using hd
                                omega
        generalize hR : okL (lowF n d) = R
        have HR := Lib.hid hR
        clear hR
        go_enter Tryz.func20, Tryz.ntmps20
        go_wp2_with (first | (go_at_call 86; refine (rwithin_any _ _ _ _).mono ?_; rintro e w' ⟨rfl, rfl⟩) | (go_at_call 87; refine (rlowest_any _ _ (by omega) (by omega) (by omega) (by omega) _).mono ?_; rintro e w1 ⟨rfl, hk⟩; obtain ⟨hc1, hf1, hz1⟩ := hk.facts))
        rw [← HR.out]
        have e0 : w1.cell? ⟨w.heap.size, 0, none⟩ = some (.int .i64 0) := by rw [hc1 _ _ (by first | (simp; done) | (simp; omega))]; simp [go_sem]
        have e1 : w1.cell? ⟨w.heap.size, 1, none⟩ = some (.int .i64 0) := by rw [hc1 _ _ (by first | (simp; done) | (simp; omega))]; simp [go_sem]
        refine bodyPost_ret (v := .tuple #[.agg #[.int .i64 (okL (lowF n d)).1, .int .i64 (okL (lowF n d)).2.1], .int .i64 (okL (lowF n d)).2.2]) (by simp [results, Tryz.results20, go_sem, e0, e1]) rfl ⟨rfl, ?_⟩
        exact (((Kept.refl _).alloc _).trans hk |>.setCell (by first | (simp; done) | (simp; omega)) _).setCell (by first | (simp; done) | (simp; omega)) _
    · have h2' : inB d (-1000000000000000) 1000000000000000 = false := by simpa using h2
      have hs : normS n d = (0, 0, 1) := by simp [normS, h2']
      rw [hs]
      clear hs h h2
      go_enter Tryz.func20, Tryz.ntmps20
      go_wp2_with (go_at_call 86; refine (rwithin_any _ _ _ _).mono ?_; rintro e w' ⟨rfl, rfl⟩)
      refine bodyPost_ret (v := .tuple #[.agg #[.int .i64 0, .int .i64 0], .int .i64 1]) (by simp [results, Tryz.results20, go_sem]) rfl ⟨rfl, ?_⟩
      exact (Kept.refl _).alloc _
  · have h1' : inB n (-1000000000000000) 1000000000000000 = false := by simpa using h1
    have hs : normS n d = (0, 0, 1) := by simp [normS, h1']
    rw [hs]
    clear hs h h1
    go_enter Tryz.func20, Tryz.ntmps20
    go_wp2_with (go_at_call 86; refine (rwithin_any _ _ _ _).mono ?_; rintro e w' ⟨rfl, rfl⟩)
    refine bodyPost_ret (v := .tuple #[.agg #[.int .i64 0, .int .i64 0], .int .i64 1]) (by simp [results, Tryz.results20, go_sem]) rfl ⟨rfl, ?_⟩
    exact (Kept.refl _).alloc _
end Go.Proofs.YtcjpecdnenemaaaGreatDoor

namespace Go.Proofs.YtcjpecdnenemaaaGreatDoor
set_option linter.unusedVariables false
open Go.RowKit Go.Shelf

theorem both_bad (an ad bn bd : Int) (h : (vld an ad && vld bn bd) = false) (w : World) :
    Calls Tryz.prog 90 #[.agg #[.int .i64 an, .int .i64 ad], .agg #[.int .i64 bn, .int .i64 bd]] w fun e w' => e = .returned (.int .i64 1) ∧ Kept w w' := by
  by_cases k : vld an ad = true
  · have k2 : vld bn bd = false := by simpa [k] using h
    clear h
    go_enter Tryz.func90, Tryz.ntmps90
    go_wp2_with fail
    refine (rvalid_any _ _ _).mono ?_
    rintro e w1 ⟨rfl, hk1⟩
    obtain ⟨hc1, hf1, hz1⟩ := hk1.facts
    go_wp2_with fail
    refine (rvalid_any _ _ _).mono ?_
    rintro e w2 ⟨rfl, hk2'⟩
    have hk2 := hk1.trans hk2'
    clear hc1 hf1 hz1
    obtain ⟨hc2, hf2, hz2⟩ := hk2.facts
    go_wp2_with fail
    go_ret
    exact ⟨rfl, (((Kept.refl _).alloc _).alloc _).trans hk2⟩
  · have k2 : vld an ad = false := by simpa using k
    clear h k
    by_cases k3 : vld bn bd = true
    all_goals
      go_enter Tryz.func90, Tryz.ntmps90
      go_wp2_with fail
      refine (rvalid_any _ _ _).mono ?_
      rintro e w1 ⟨rfl, hk1⟩
      obtain ⟨hc1, hf1, hz1⟩ := hk1.facts
      go_wp2_with fail
      refine (rvalid_any _ _ _).mono ?_
      rintro e w2 ⟨rfl, hk2'⟩
      have hk2 := hk1.trans hk2'
      clear hc1 hf1 hz1
      obtain ⟨hc2, hf2, hz2⟩ := hk2.facts
      go_wp2_with fail
      go_ret
      exact ⟨rfl, (((Kept.refl _).alloc _).alloc _).trans hk2⟩
theorem both_ok (an ad bn bd : Int) (h : vld an ad = true) (k : vld bn bd = true) (w : World) :
    Calls Tryz.prog 90 #[.agg #[.int .i64 an, .int .i64 ad], .agg #[.int .i64 bn, .int .i64 bd]] w fun e w' => e = .returned (.int .i64 0) ∧ Kept w w' := by
  go_enter Tryz.func90, Tryz.ntmps90
  go_wp2_with fail
  refine (rvalid_any _ _ _).mono ?_
  rintro e w1 ⟨rfl, hk1⟩
  obtain ⟨hc1, hf1, hz1⟩ := hk1.facts
  go_wp2_with fail
  refine (rvalid_any _ _ _).mono ?_
  rintro e w2 ⟨rfl, hk2'⟩
  have hk2 := hk1.trans hk2'
  clear hc1 hf1 hz1
  obtain ⟨hc2, hf2, hz2⟩ := hk2.facts
  go_wp2_with fail
  go_ret
  exact ⟨rfl, (((Kept.refl _).alloc _).alloc _).trans hk2⟩

theorem radd_bad (an ad bn bd : Int) (h : (vld an ad && vld bn bd) = false) (w : World) :
    Calls Tryz.prog 28 #[.agg #[.int .i64 an, .int .i64 ad], .agg #[.int .i64 bn, .int .i64 bd]] w fun e w' => e = .returned (.tuple #[.agg #[.int .i64 0, .int .i64 0], .int .i64 1]) ∧ Kept w w' := by
  have H := Lib.hid h
  clear h
  go_enter Tryz.func28, Tryz.ntmps28
  go_wp2_with fail
  refine (both_bad _ _ _ _ H.out _).mono ?_
  rintro e w1 ⟨rfl, hk1⟩
  obtain ⟨hc1, hf1, hz1⟩ := hk1.facts
  go_wp2
  have e0 : w1.cell? ⟨w.heap.size + 1 + 1, 0, none⟩ = some (.int .i64 0) := by rw [hc1 _ _ (by first | (simp; done) | (simp; omega))]; simp [go_sem]
  have e1 : w1.cell? ⟨w.heap.size + 1 + 1, 1, none⟩ = some (.int .i64 0) := by rw [hc1 _ _ (by first | (simp; done) | (simp; omega))]; simp [go_sem]
  refine bodyPost_ret (v := .tuple #[.agg #[.int .i64 0, .int .i64 0], .int .i64 1]) (by simp [results, Tryz.results28, go_sem, e0, e1]) rfl ⟨rfl, ?_⟩
  exact (((((Kept.refl _).alloc _).alloc _).alloc _).trans hk1 |>.setCell (by first | (simp; done) | (simp; omega)) _).setCell (by first | (simp; done) | (simp; omega)) _

theorem radd_ok (an ad bn bd : Int) (h : vld an ad = true) (k : vld bn bd = true) (w : World) :
    Calls Tryz.prog 28 #[.agg #[.int .i64 an, .int .i64 ad], .agg #[.int .i64 bn, .int .i64 bd]] w fun e w' => e = .returned (.tuple #[.agg #[.int .i64 (okL (lowF (an * bd + bn * ad) (ad * bd))).1, .int .i64 (okL (lowF (an * bd + bn * ad) (ad * bd))).2.1], .int .i64 (okL (lowF (an * bd + bn * ad) (ad * bd))).2.2]) ∧ Kept w w' := by
  obtain ⟨⟨a1, a2⟩, a3, a4⟩ := vld_bd h
  obtain ⟨⟨b1, b2⟩, b3, b4⟩ := vld_bd k
  have p1 := mul_bd 1000000000000 1000000 a3 a4 (by omega) b2 (by omega)
  have p2 := mul_bd 1000000000000 1000000 b3 b4 (by omega) a2 (by omega)
  have p3 := mul_bd (n := ad) (d := bd) 1000000 1000000 (by omega) a2 (by omega) b2 (by omega)
  have p4 := mul_pos1 a1 b1
  obtain ⟨p11, p12⟩ := p1
  obtain ⟨p21, p22⟩ := p2
  obtain ⟨p31, p32⟩ := p3
  generalize hR : okL (lowF (an * bd + bn * ad) (ad * bd)) = R
  have HR := Lib.hid hR
  clear hR
  go_enter Tryz.func28, Tryz.ntmps28
  go_wp2_with fail
  refine (both_ok _ _ _ _ h k _).mono ?_
  rintro e w1 ⟨rfl, hk1⟩
  obtain ⟨hc1, hf1, hz1⟩ := hk1.facts
  go_wp2_with fail
  refine (rlowest_any _ _ (by omega) (by omega) (by omega) (by omega) _).mono ?_
  rintro e w2 ⟨rfl, hk2'⟩
  have hk2 := hk1.trans hk2'
  obtain ⟨hc2, hf2, hz2⟩ := hk2.facts
  clear hc1 hf1 hz1
  rw [HR.out]
  go_wp2
  have e0 : w2.cell? ⟨w.heap.size + 1 + 1, 0, none⟩ = some (.int .i64 0) := by rw [hc2 _ _ (by first | (simp; done) | (simp; omega))]; simp [go_sem]
  have e1 : w2.cell? ⟨w.heap.size + 1 + 1, 1, none⟩ = some (.int .i64 0) := by rw [hc2 _ _ (by first | (simp; done) | (simp; omega))]; simp [go_sem]
  refine bodyPost_ret (v := .tuple #[.agg #[.int .i64 R.1, .int .i64 R.2.1], .int .i64 R.2.2]) (by simp [results, Tryz.results28, go_sem, e0, e1]) rfl ⟨rfl, ?_⟩
  exact (((((Kept.refl _).alloc _).alloc _).alloc _).trans hk2 |>.setCell (by first | (simp; done) | (simp; omega)) _).setCell (by first | (simp; done) | (simp; omega)) _

theorem radd_any (an ad bn bd : Int) (w : World) :
    Calls Tryz.prog 28 #[.agg #[.int .i64 an, .int .i64 ad], .agg #[.int .i64 bn, .int .i64 bd]] w fun e w' => e = .returned (.tuple #[.agg #[.int .i64 (addS an ad bn bd).1, .int .i64 (addS an ad bn bd).2.1], .int .i64 (addS an ad bn bd).2.2]) ∧ Kept w w' := by
  by_cases h : (vld an ad && vld bn bd) = true
  · have hs : addS an ad bn bd = okL (lowF (an * bd + bn * ad) (ad * bd)) := by simp only [addS, if_pos h]
    rw [hs]
    rw [Bool.and_eq_true] at h
    exact radd_ok an ad bn bd h.1 h.2 w
  · have h' : (vld an ad && vld bn bd) = false := by simpa using h
    have hs : addS an ad bn bd = (0, 0, 1) := by simp only [addS, if_neg h]
    rw [hs]
    exact radd_bad an ad bn bd h' w

theorem vld_neg (n d : Int) : vld (-n) d = vld n d := by
  have hg : gcdI (-n) d = gcdI n d := by simp [gcdI]
  rw [Bool.eq_iff_iff, vld_iff, vld_iff, hg]
  omega
theorem vld_wneg (n d : Int) (h : -9223372036854775808 ≤ n) (h1 : n ≤ 9223372036854775807) : vld (wrap64 (-n)) d = vld n d := by
  by_cases k : n = -9223372036854775808
  · subst k
    have e : wrap64 (-(-9223372036854775808)) = -9223372036854775808 := by unfold wrap64; omega
    rw [e]
  · have e : wrap64 (-n) = -n := by unfold wrap64; omega
    rw [e, vld_neg]
theorem addS_neg (an ad bn bd : Int) (h : -9223372036854775808 ≤ bn) (h1 : bn ≤ 9223372036854775807) : addS an ad (wrap64 (-bn)) bd = subS an ad bn bd := by
  unfold addS subS
  rw [vld_wneg bn bd h h1]
  by_cases k : vld bn bd = true
  · have hb := vld_bd k
    have e : wrap64 (-bn) = -bn := by have := hb.2; unfold wrap64; omega
    rw [e]
  · simp [k]
theorem rsub_any (an ad bn bd : Int) (h : -9223372036854775808 ≤ bn) (h1 : bn ≤ 9223372036854775807) (w : World) :
    Calls Tryz.prog 30 #[.agg #[.int .i64 an, .int .i64 ad], .agg #[.int .i64 bn, .int .i64 bd]] w fun e w' => e = .returned (.tuple #[.agg #[.int .i64 (subS an ad bn bd).1, .int .i64 (subS an ad bn bd).2.1], .int .i64 (subS an ad bn bd).2.2]) ∧ Kept w w' := by
  rw [← addS_neg an ad bn bd h h1]
  by_cases hm : bn = -9223372036854775808
  · have hw : wrap64 (-bn) = -9223372036854775808 := by rw [hm]; unfold wrap64; omega
    have hw2 : (wrap64 (-bn) : Int) = bn := by rw [hw, hm]
    rw [hw2]
    have Hw := Lib.hid hw2
    clear hw hw2
    have Hm := Lib.hid hm
    clear hm
    generalize hR : addS an ad bn bd = R
    have HR := Lib.hid hR
    clear hR
    go_enter Tryz.func30, Tryz.ntmps30
    go_wp2_with fail
    rw [Hw.out]
    refine (radd_any _ _ _ _ _).mono ?_
    rintro e w1 ⟨rfl, hk1⟩
    obtain ⟨hc1, hf1, hz1⟩ := hk1.facts
    rw [HR.out]
    go_wp2
    have e0 : w1.cell? ⟨w.heap.size + 1 + 1, 0, none⟩ = some (.int .i64 0) := by rw [hc1 _ _ (by first | (simp; done) | (simp; omega))]; simp [go_sem]
    have e1 : w1.cell? ⟨w.heap.size + 1 + 1, 1, none⟩ = some (.int .i64 0) := by rw [hc1 _ _ (by first | (simp; done) | (simp; omega))]; simp [go_sem]
    refine bodyPost_ret (v := .tuple #[.agg #[.int .i64 R.1, .int .i64 R.2.1], .int .i64 R.2.2]) (by simp [results, Tryz.results30, go_sem, e0, e1]) rfl ⟨rfl, ?_⟩
    exact (((((Kept.refl _).alloc _).alloc _).alloc _).trans hk1 |>.setCell (by first | (simp; done) | (simp; omega)) _).setCell (by first | (simp; done) | (simp; omega)) _
  · have hw : wrap64 (-bn) = -bn := by unfold wrap64; omega
    rw [hw]
    have Hw := Lib.hid hw
    clear hw
    generalize hR : addS an ad (-bn) bd = R
    have HR := Lib.hid hR
    clear hR
    go_enter Tryz.func30, Tryz.ntmps30
    go_wp2_with fail
    refine (radd_any _ _ _ _ _).mono ?_
    rintro e w1 ⟨rfl, hk1⟩
    obtain ⟨hc1, hf1, hz1⟩ := hk1.facts
    rw [HR.out]
    go_wp2
    have e0 : w1.cell? ⟨w.heap.size + 1 + 1, 0, none⟩ = some (.int .i64 0) := by rw [hc1 _ _ (by first | (simp; done) | (simp; omega))]; simp [go_sem]
    have e1 : w1.cell? ⟨w.heap.size + 1 + 1, 1, none⟩ = some (.int .i64 0) := by rw [hc1 _ _ (by first | (simp; done) | (simp; omega))]; simp [go_sem]
    refine bodyPost_ret (v := .tuple #[.agg #[.int .i64 R.1, .int .i64 R.2.1], .int .i64 R.2.2]) (by simp [results, Tryz.results30, go_sem, e0, e1]) rfl ⟨rfl, ?_⟩
    exact (((((Kept.refl _).alloc _).alloc _).alloc _).trans hk1 |>.setCell (by first | (simp; done) | (simp; omega)) _).setCell (by first | (simp; done) | (simp; omega)) _

theorem rcompare_bad (an ad bn bd : Int) (h : (vld an ad && vld bn bd) = false) (w : World) :
    Calls Tryz.prog 22 #[.agg #[.int .i64 an, .int .i64 ad], .agg #[.int .i64 bn, .int .i64 bd]] w fun e w' => e = .returned (.int .i64 0) ∧ Kept w w' := by
  have H := Lib.hid h
  clear h
  go_enter Tryz.func22, Tryz.ntmps22
  go_wp2_with fail
  refine (both_bad _ _ _ _ H.out _).mono ?_
  rintro e w1 ⟨rfl, hk1⟩
  obtain ⟨hc1, hf1, hz1⟩ := hk1.facts
  go_wp2
  go_ret
  exact ⟨rfl, (((Kept.refl _).alloc _).alloc _).trans hk1⟩
theorem rcompare_ok (an ad bn bd : Int) (h : vld an ad = true) (k : vld bn bd = true) (w : World) :
    Calls Tryz.prog 22 #[.agg #[.int .i64 an, .int .i64 ad], .agg #[.int .i64 bn, .int .i64 bd]] w fun e w' => e = .returned (.int .i64 (cmpI an ad bn bd)) ∧ Kept w w' := by
  obtain ⟨⟨a1, a2⟩, a3, a4⟩ := vld_bd h
  obtain ⟨⟨b1, b2⟩, b3, b4⟩ := vld_bd k
  obtain ⟨p11, p12⟩ := mul_bd 1000000000000 1000000 a3 a4 (by omega) b2 (by omega)
  obtain ⟨p21, p22⟩ := mul_bd 1000000000000 1000000 b3 b4 (by omega) a2 (by omega)
  go_enter Tryz.func22, Tryz.ntmps22
  go_wp2_with fail
  refine (both_ok _ _ _ _ h k _).mono ?_
  rintro e w1 ⟨rfl, hk1⟩
  obtain ⟨hc1, hf1, hz1⟩ := hk1.facts
  go_wp2
  all_goals
    go_ret
    exact ⟨ret_int (by unfold cmpI; first | (rw [if_pos (by assumption)]; done) | (rw [if_neg (by omega), if_pos (by omega)]; done) | (rw [if_neg (by omega), if_neg (by omega)]; done)), (((Kept.refl _).alloc _).alloc _).trans hk1⟩
theorem rcompare_any (an ad bn bd : Int) (w : World) :
    Calls Tryz.prog 22 #[.agg #[.int .i64 an, .int .i64 ad], .agg #[.int .i64 bn, .int .i64 bd]] w fun e w' => e = .returned (.int .i64 (cmpS an ad bn bd)) ∧ Kept w w' := by
  by_cases h : (vld an ad && vld bn bd) = true
  · have hs : cmpS an ad bn bd = cmpI an ad bn bd := by simp only [cmpS, if_pos h]
    rw [hs]
    rw [Bool.and_eq_true] at h
    exact rcompare_ok an ad bn bd h.1 h.2 w
  · have h' : (vld an ad && vld bn bd) = false := by simpa using h
    have hs : cmpS an ad bn bd = 0 := by simp only [cmpS, if_neg h]
    rw [hs]
    exact rcompare_bad an ad bn bd h' w

def floorS (n d : Int) : Int := if vld n d = true then n / d else 0
def ceilS (n d : Int) : Int := if vld n d = true then -((-n) / d) else 0
theorem floor_tdiv (n d : Int) (hd : 1 ≤ d) : n / d = if n.tmod d < 0 then n.tdiv d - 1 else n.tdiv d := by
  have h1 := Int.mul_tdiv_add_tmod n d
  have h2 := Int.mul_ediv_add_emod n d
  have h3 := Int.emod_nonneg n (show d ≠ 0 by omega)
  have h4 := Int.emod_lt_of_pos n (show 0 < d by omega)
  have h5 : (n.tmod d).natAbs < d.natAbs := tmod_lt (by omega)
  obtain ⟨t, ht⟩ : ∃ t, n.tdiv d = n / d + t := ⟨n.tdiv d - n / d, by omega⟩
  have h6 : d * t = n % d - n.tmod d := by
    have : d * n.tdiv d = d * (n / d) + d * t := by rw [ht, Int.mul_add]
    omega
  have t1 : t < 2 := by
    rcases Int.lt_or_le t 2 with h | h
    · exact h
    · have : d * 2 ≤ d * t := Int.mul_le_mul_of_nonneg_left h (by omega)
      omega
  have t2 : -1 < t := by
    rcases Int.lt_or_le (-1) t with h | h
    · exact h
    · have : d * t ≤ d * (-1) := Int.mul_le_mul_of_nonneg_left h (by omega)
      omega
  rcases (show t = 0 ∨ t = 1 by omega) with rfl | rfl
  · rw [if_neg (by omega)]; omega
  · rw [if_pos (by omega)]; omega
theorem floor_bd {n d : Int} (hd : 1 ≤ d) (h : -1000000000000 ≤ n) (h1 : n ≤ 1000000000000) : -1000000000000 ≤ n / d ∧ n / d ≤ 1000000000000 := by
  constructor
  · exact Int.le_ediv_of_mul_le (by omega) (by have := Int.mul_le_mul_of_nonneg_left hd (show (0 : Int) ≤ 1000000000000 by omega); omega)
  · exact Int.ediv_le_of_le_mul (by omega) (by have := Int.mul_le_mul_of_nonneg_left hd (show (0 : Int) ≤ 1000000000000 by omega); omega)

theorem floor_any (n d : Int) (w : World) :
    Calls Tryz.prog 23 #[.agg #[.int .i64 n, .int .i64 d]] w fun e w' => e = .returned (.int .i64 (floorS n d)) ∧ Kept w w' := by
  by_cases h : vld n d = true
  · have hs : floorS n d = n / d := by simp only [floorS, if_pos h]
    rw [hs]
    clear hs
    obtain ⟨⟨a1, a2⟩, a3, a4⟩ := vld_bd h
    have ht := Lib.hid (floor_tdiv n d a1)
    obtain ⟨q1, q2⟩ := tdiv_bd2 (b := d) a3 a4
    have hne : ¬ d = 0 := by omega
    have hm : (n.tmod d).natAbs < d.natAbs := tmod_lt (by omega)
    by_cases hneg : n.tmod d < 0
    all_goals
      go_enter Tryz.func23, Tryz.ntmps23
      go_wp2_with (go_at_call 88; refine (valid_any _ _ _).mono ?_; rintro e w1 ⟨rfl, hk1⟩; obtain ⟨hc1, hf1, hz1⟩ := hk1.facts)
      go_ret
      exact ⟨ret_int (by rw [ht.out]; first | (rw [if_pos (by omega)]; done) | (rw [if_neg (by omega)]; done)), ((Kept.refl _).alloc _).trans hk1⟩
  · have h' : vld n d = false := by simpa using h
    have hs : floorS n d = 0 := by simp only [floorS, if_neg h]
    rw [hs]
    clear hs h
    go_enter Tryz.func23, Tryz.ntmps23
    go_wp2_with (go_at_call 88; refine (valid_any _ _ _).mono ?_; rintro e w1 ⟨rfl, hk1⟩; obtain ⟨hc1, hf1, hz1⟩ := hk1.facts)
    go_ret
    exact ⟨rfl, ((Kept.refl _).alloc _).trans hk1⟩
theorem rfloor0 (n d : Int) (hd : 1 ≤ d) (hd2 : d ≤ 1000000) (h : -1000000000000 ≤ n) (h1 : n ≤ 1000000000000) (w : World) :
    Calls Tryz.prog 92 #[.int .i64 n, .int .i64 d] w fun e w' => e = .returned (.int .i64 (n / d)) ∧ w = w' := by
  have ht := Lib.hid (floor_tdiv n d hd)
  have hq := Int.mul_tdiv_add_tmod n d
  rw [Int.mul_comm] at hq
  obtain ⟨q1, q2⟩ := tdiv_bd2 (b := d) h h1
  have hne : ¬ d = 0 := by omega
  have hm : (n.tmod d).natAbs < d.natAbs := tmod_lt (by omega)
  have b1 : -2000000000000 ≤ n.tdiv d * d := by omega
  have b2 : n.tdiv d * d ≤ 2000000000000 := by omega
  have Hq := Lib.hid hq
  clear hq
  go_enter Tryz.func92, Tryz.ntmps92
  go_wp2
  all_goals
    go_ret
    refine ⟨ret_int ?_, rfl⟩
    rw [ht.out]
    have := Hq.out
    first | (rw [if_pos (by omega)]; done) | (rw [if_neg (by omega)]; done)

theorem rfloor_any (n d : Int) (w : World) :
    Calls Tryz.prog 24 #[.agg #[.int .i64 n, .int .i64 d]] w fun e w' => e = .returned (.int .i64 (floorS n d)) ∧ Kept w w' := by
  by_cases h : vld n d = true
  · have hs : floorS n d = n / d := by simp only [floorS, if_pos h]
    rw [hs]
    clear hs
    obtain ⟨⟨a1, a2⟩, a3, a4⟩ := vld_bd h
    go_enter Tryz.func24, Tryz.ntmps24
    go_wp2_with (first | (go_at_call 91; refine (rvalid_any _ _ _).mono ?_; rintro e w1 ⟨rfl, hk1⟩; obtain ⟨hc1, hf1, hz1⟩ := hk1.facts) | (go_at_call 92; refine (rfloor0 _ _ a1 a2 a3 a4 _).mono ?_; rintro e w2 ⟨rfl, rfl⟩))
    go_ret
    exact ⟨rfl, ((Kept.refl _).alloc _).trans hk1⟩
  · have h' : vld n d = false := by simpa using h
    have hs : floorS n d = 0 := by simp only [floorS, if_neg h]
    rw [hs]
    clear hs h
    go_enter Tryz.func24, Tryz.ntmps24
    go_wp2_with (go_at_call 91; refine (rvalid_any _ _ _).mono ?_; rintro e w1 ⟨rfl, hk1⟩; obtain ⟨hc1, hf1, hz1⟩ := hk1.facts)
    go_ret
    exact ⟨rfl, ((Kept.refl _).alloc _).trans hk1⟩
theorem rceil_any (n d : Int) (w : World) :
    Calls Tryz.prog 26 #[.agg #[.int .i64 n, .int .i64 d]] w fun e w' => e = .returned (.int .i64 (ceilS n d)) ∧ Kept w w' := by
  by_cases h : vld n d = true
  · have hs : ceilS n d = -((-n) / d) := by simp only [ceilS, if_pos h]
    rw [hs]
    clear hs
    obtain ⟨⟨a1, a2⟩, a3, a4⟩ := vld_bd h
    obtain ⟨f1, f2⟩ := floor_bd (n := -n) (d := d) a1 (by omega) (by omega)
    go_enter Tryz.func26, Tryz.ntmps26
    go_wp2_with (first | (go_at_call 91; refine (rvalid_any _ _ _).mono ?_; rintro e w1 ⟨rfl, hk1⟩; obtain ⟨hc1, hf1, hz1⟩ := hk1.facts) | (go_at_call 92; refine (rfloor0 _ _ a1 a2 (by omega) (by omega) _).mono ?_; rintro e w2 ⟨rfl, rfl⟩))
    go_ret
    exact ⟨rfl, ((Kept.refl _).alloc _).trans hk1⟩
  · have h' : vld n d = false := by simpa using h
    have hs : ceilS n d = 0 := by simp only [ceilS, if_neg h]
    rw [hs]
    clear hs h
    go_enter Tryz.func26, Tryz.ntmps26
    go_wp2_with (go_at_call 91; refine (rvalid_any _ _ _).mono ?_; rintro e w1 ⟨rfl, hk1⟩; obtain ⟨hc1, hf1, hz1⟩ := hk1.facts)
    go_ret
    exact ⟨rfl, ((Kept.refl _).alloc _).trans hk1⟩

theorem ceil_is (n d : Int) (h : -9223372036854775808 ≤ n) (h1 : n ≤ 9223372036854775807) : ceilS n d = -floorS (wrap64 (-n)) d := by
  unfold ceilS floorS
  rw [vld_wneg n d h h1]
  by_cases k : vld n d = true
  · have e : wrap64 (-n) = -n := by have := (vld_bd k).2; unfold wrap64; omega
    rw [if_pos k, if_pos k, e]
  · rw [if_neg k, if_neg k]; rfl
theorem floorS_bd (n d : Int) : -1000000000000 ≤ floorS n d ∧ floorS n d ≤ 1000000000000 := by
  unfold floorS
  by_cases k : vld n d = true
  · rw [if_pos k]
    have := vld_bd k
    exact floor_bd this.1.1 this.2.1 this.2.2
  · rw [if_neg k]; omega
theorem ceil_any (n d : Int) (h : -9223372036854775808 ≤ n) (h1 : n ≤ 9223372036854775807) (w : World) :
    Calls Tryz.prog 25 #[.agg #[.int .i64 n, .int .i64 d]] w fun e w' => e = .returned (.int .i64 (ceilS n d)) ∧ Kept w w' := by
  rw [ceil_is n d h h1]
  obtain ⟨m, hm⟩ : ∃ m, m = wrap64 (-n) := ⟨_, rfl⟩
  obtain ⟨f1, f2⟩ := floorS_bd m d
  rw [← hm]
  by_cases hx : n = -9223372036854775808
  · have e : m = n := by rw [hm, hx]; unfold wrap64; omega
    have E := Lib.hid e
    have e2 : wrap64 (-n) = n := by rw [← hm, e]
    have E2 := Lib.hid e2
    clear hm e hx e2
    go_enter Tryz.func25, Tryz.ntmps25
    go_wp2_with fail
    rw [E2.out, ← E.out]
    refine (floor_any _ _ _).mono ?_
    rintro e w1 ⟨rfl, hk1⟩
    go_wp2
    go_ret
    exact ⟨rfl, ((Kept.refl _).alloc _).trans hk1⟩
  · have e : wrap64 (-n) = -n := by unfold wrap64; omega
    rw [e] at hm
    have E := Lib.hid hm
    clear hm e
    go_enter Tryz.func25, Tryz.ntmps25
    go_wp2_with fail
    rw [← E.out]
    refine (floor_any _ _ _).mono ?_
    rintro e w1 ⟨rfl, hk1⟩
    go_wp2
    go_ret
    exact ⟨rfl, ((Kept.refl _).alloc _).trans hk1⟩
end Go.Proofs.YtcjpecdnenemaaaGreatDoor
