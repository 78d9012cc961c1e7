/-
  ShareFractions: the law's function.
-/
import Derived.Test.YtcjpecdnenemaaaGreatDoorGR
import Derived.Test.YtcjpecdnenemaaaGreatDoorGD
namespace Go.Proofs.YtcjpecdnenemaaaGreatDoor
set_option linter.all false
open Go.RowKit Go.Shelf

theorem SL_of {w w1 w2 W W' : World} {an ad bn bd x0 x1 : Int} {p q r s : Nat} (ha : RowC W p [.int .i64 an, .int .i64 ad]) (hb : RowC W q [.int .i64 bn, .int .i64 bd]) (hx : RowC W r [.int .i64 x0, .int .i64 x1]) (hy : RowC W s [.int .i64 x0, .int .i64 x1]) (hk : Kept W W') :
    W'.cell? ⟨p, 0, none⟩ = some (.int .i64 an) ∧ W'.cell? ⟨p, 1, none⟩ = some (.int .i64 ad) ∧ W'.cell? ⟨q, 0, none⟩ = some (.int .i64 bn) ∧ W'.cell? ⟨q, 1, none⟩ = some (.int .i64 bd) ∧ W'.cell? ⟨r, 0, none⟩ = some (.int .i64 x0) ∧ W'.cell? ⟨r, 1, none⟩ = some (.int .i64 x1) ∧ W'.cell? ⟨s, 0, none⟩ = some (.int .i64 x0) ∧ W'.cell? ⟨s, 1, none⟩ = some (.int .i64 x1) ∧ Kept W W' :=
  ⟨(ha.kept hk 0 _ rfl).1, (ha.kept hk 1 _ rfl).1, (hb.kept hk 0 _ rfl).1, (hb.kept hk 1 _ rfl).1, (hx.kept hk 0 _ rfl).1, (hx.kept hk 1 _ rfl).1, (hy.kept hk 0 _ rfl).1, (hy.kept hk 1 _ rfl).1, hk⟩
theorem SL_step {V W W' : World} {an ad bn bd x0 x1 : Int} {p q r s : Nat} (h : W.cell? ⟨p, 0, none⟩ = some (.int .i64 an) ∧ W.cell? ⟨p, 1, none⟩ = some (.int .i64 ad) ∧ W.cell? ⟨q, 0, none⟩ = some (.int .i64 bn) ∧ W.cell? ⟨q, 1, none⟩ = some (.int .i64 bd) ∧ W.cell? ⟨r, 0, none⟩ = some (.int .i64 x0) ∧ W.cell? ⟨r, 1, none⟩ = some (.int .i64 x1) ∧ W.cell? ⟨s, 0, none⟩ = some (.int .i64 x0) ∧ W.cell? ⟨s, 1, none⟩ = some (.int .i64 x1) ∧ Kept V W) (hk : Kept W W') :
    W'.cell? ⟨p, 0, none⟩ = some (.int .i64 an) ∧ W'.cell? ⟨p, 1, none⟩ = some (.int .i64 ad) ∧ W'.cell? ⟨q, 0, none⟩ = some (.int .i64 bn) ∧ W'.cell? ⟨q, 1, none⟩ = some (.int .i64 bd) ∧ W'.cell? ⟨r, 0, none⟩ = some (.int .i64 x0) ∧ W'.cell? ⟨r, 1, none⟩ = some (.int .i64 x1) ∧ W'.cell? ⟨s, 0, none⟩ = some (.int .i64 x0) ∧ W'.cell? ⟨s, 1, none⟩ = some (.int .i64 x1) ∧ Kept V W' := by
  obtain ⟨h0, h1, h2, h3, h4, h5, h6, h7, h8⟩ := h
  exact ⟨(hk.cells _ _ (cell_lt h0)).trans h0, (hk.cells _ _ (cell_lt h1)).trans h1, (hk.cells _ _ (cell_lt h2)).trans h2, (hk.cells _ _ (cell_lt h3)).trans h3, (hk.cells _ _ (cell_lt h4)).trans h4, (hk.cells _ _ (cell_lt h5)).trans h5, (hk.cells _ _ (cell_lt h6)).trans h6, (hk.cells _ _ (cell_lt h7)).trans h7, h8.trans hk⟩

set_option maxRecDepth 100000 in
set_option maxHeartbeats 3200000 in
theorem fractions_any (num den an ad bn bd : Int) (ha1 : -9223372036854775808 ≤ an) (ha2 : an ≤ 9223372036854775807) (hb1 : -9223372036854775808 ≤ bn) (hb2 : bn ≤ 9223372036854775807) (w : World) (hE : Env w) :
    Calls Tryz.prog 3 #[.int .i64 num, .int .i64 den, .agg #[.int .i64 an, .int .i64 ad], .agg #[.int .i64 bn, .int .i64 bd]] w fun e w' => e = .returned (.bool true) ∧ Kept w w' := by
  have HE := Lib.hid hE
  obtain ⟨W0, hW0⟩ : ∃ W0 : World, W0 = (w.alloc (.cells #[.int .i64 an, .int .i64 ad] 23)).alloc (.cells #[.int .i64 bn, .int .i64 bd] 23) := ⟨_, rfl⟩
  have K0 : Kept w W0 := by rw [hW0]; exact ((Kept.refl w).alloc _).alloc _
  have RA : RowC W0 w.heap.size [.int .i64 an, .int .i64 ad] := by rw [hW0]; exact (RowC.new w [.int .i64 an, .int .i64 ad] 23).kept ((Kept.refl _).alloc _)
  have RB : RowC W0 (w.heap.size + 1) [.int .i64 bn, .int .i64 bd] := by rw [hW0]; exact RowC.at1 (vs := [.int .i64 bn, .int .i64 bd]) (by simp)
  have HW0 := Lib.hid hW0
  have HK0 := Lib.hid K0
  have HRA := Lib.hid RA
  have HRB := Lib.hid RB
  clear hE hW0 K0 RA RB
  go_enter Tryz.func3, Tryz.ntmps3
  go_wp2_with fail
  rw [← HW0.out]
  have hn := norm_any num den W0
  have hr := fun W => rnorm_any num den W
  obtain ⟨x0, hx0⟩ : ∃ x, (normS num den).1 = x := ⟨_, rfl⟩
  obtain ⟨x1, hx1⟩ : ∃ x, (normS num den).2.1 = x := ⟨_, rfl⟩
  obtain ⟨x2, hx2⟩ : ∃ x, (normS num den).2.2 = x := ⟨_, rfl⟩
  rw [hx0, hx1, hx2] at hn
  simp only [hx0, hx1, hx2] at hr
  have HR := Lib.hid hr
  refine hn.mono ?_
  clear hn hr hx0 hx1 hx2
  rintro e w1 ⟨rfl, hk1⟩
  have RX := Lib.hid (RowC.new w1 [.int .i64 x0, .int .i64 x1] 23)
  have K1 := Lib.hid hk1
  clear hk1
  go_wp2_with fail
  refine (HR.out _).mono ?_
  rintro e w2 ⟨rfl, hk2⟩
  obtain ⟨W2, hW2⟩ : ∃ W2 : World, W2 = w2.alloc (.cells #[.int .i64 x0, .int .i64 x1] 23) := ⟨_, rfl⟩
  have RY : RowC W2 w2.heap.size [.int .i64 x0, .int .i64 x1] := by rw [hW2]; exact RowC.new w2 [.int .i64 x0, .int .i64 x1] 23
  have k12 : Kept (w1.alloc (.cells #[.int .i64 x0, .int .i64 x1] 23)) W2 := by rw [hW2]; exact hk2.alloc _
  have k02 : Kept W0 W2 := (K1.out.alloc _).trans k12
  have RX2 := Lib.hid (RX.out.kept k12)
  have RA2 := Lib.hid (HRA.out.kept k02)
  have RB2 := Lib.hid (HRB.out.kept k02)
  have RY2 := Lib.hid RY
  have HK2 := Lib.hid k02
  have HW2 := Lib.hid hW2
  have HK12 := Lib.hid hk2
  have S2 := Lib.hid (SL_of (w := w) (w1 := w) (w2 := w) RA2.out RB2.out RX2.out RY2.out ((Kept.refl W2).drew))
  clear hk2 hW2 RY k12 k02
  go_wp2_with fail
  rw [← HW2.out]
  go_region_held3 (fun W => W.cell? ⟨w.heap.size, 0, none⟩ = some (.int .i64 an) ∧ W.cell? ⟨w.heap.size, 1, none⟩ = some (.int .i64 ad) ∧ W.cell? ⟨w.heap.size + 1, 0, none⟩ = some (.int .i64 bn) ∧ W.cell? ⟨w.heap.size + 1, 1, none⟩ = some (.int .i64 bd) ∧ W.cell? ⟨w1.heap.size, 0, none⟩ = some (.int .i64 x0) ∧ W.cell? ⟨w1.heap.size, 1, none⟩ = some (.int .i64 x1) ∧ W.cell? ⟨w2.heap.size, 0, none⟩ = some (.int .i64 x0) ∧ W.cell? ⟨w2.heap.size, 1, none⟩ = some (.int .i64 x1) ∧ Kept W2 W)
    (first
      | (with_reducible exact S2.out)
      | (with_reducible refine SL_step ?_ hkk; assumption)
      | fail)
    (first
      | fail
      | (go_at_call 21; refine (compare_any _ _ _ _ _).mono ?_; rintro e w' ⟨rfl, hkk⟩)
      | (go_at_call 22; refine (rcompare_any _ _ _ _ _).mono ?_; rintro e w' ⟨rfl, hkk⟩)
      | (go_at_call 23; refine (floor_any _ _ _).mono ?_; rintro e w' ⟨rfl, hkk⟩)
      | (go_at_call 24; refine (rfloor_any _ _ _).mono ?_; rintro e w' ⟨rfl, hkk⟩)
      | (go_at_call 25; refine (ceil_any _ _ ha1 ha2 _).mono ?_; rintro e w' ⟨rfl, hkk⟩)
      | (go_at_call 26; refine (rceil_any _ _ _).mono ?_; rintro e w' ⟨rfl, hkk⟩))
  obtain ⟨_, _, _, _, _, _, _, _, hKs⟩ := ‹_ ∧ _›
  have zA := cell_lt (RA2.out 0 _ rfl).1
  have l1 : w.heap.size + 1 < w1.heap.size := by have := (HRB.out.kept K1.out 0 _ rfl).1; exact cell_lt this
  have l2 : w1.heap.size < w2.heap.size := by have := (RX.out.kept (show Kept (w1.alloc (.cells #[.int .i64 x0, .int .i64 x1] 23)) w2 from HK12.out) 0 _ rfl).1; exact cell_lt this
  have KS := Lib.hid hKs
  have PA := Lib.hid (RA2.out.kept hKs)
  have PB := Lib.hid (RB2.out.kept hKs)
  have PX := Lib.hid (RX2.out.kept hKs)
  have PY := Lib.hid (RY2.out.kept hKs)
  clear hKs hkk
  have fA0 := (PA.out 0 _ rfl).1
  have fA1 := (PA.out 1 _ rfl).1
  have fB0 := (PB.out 0 _ rfl).1
  have fB1 := (PB.out 1 _ rfl).1
  obtain ⟨y0, hy0⟩ : ∃ x, (addS an ad bn bd).1 = x := ⟨_, rfl⟩
  obtain ⟨y1, hy1⟩ : ∃ x, (addS an ad bn bd).2.1 = x := ⟨_, rfl⟩
  obtain ⟨y2, hy2⟩ : ∃ x, (addS an ad bn bd).2.2 = x := ⟨_, rfl⟩
  have Cy1 := Lib.hid (fun W => add_any an ad bn bd W)
  have Cy2 := Lib.hid (fun W => radd_any an ad bn bd W)
  simp only [hy0, hy1, hy2] at Cy1 Cy2
  clear hy0 hy1 hy2
  obtain ⟨z0, hz0⟩ : ∃ x, (subS an ad bn bd).1 = x := ⟨_, rfl⟩
  obtain ⟨z1, hz1⟩ : ∃ x, (subS an ad bn bd).2.1 = x := ⟨_, rfl⟩
  obtain ⟨z2, hz2⟩ : ∃ x, (subS an ad bn bd).2.2 = x := ⟨_, rfl⟩
  have Cz1 := Lib.hid (fun W => sub_any an ad bn bd W)
  have Cz2 := Lib.hid (fun W => rsub_any an ad bn bd hb1 hb2 W)
  simp only [hz0, hz1, hz2] at Cz1 Cz2
  clear hz0 hz1 hz2
  obtain ⟨u0, hu0⟩ : ∃ x, (mulS an ad bn bd).1 = x := ⟨_, rfl⟩
  obtain ⟨u1, hu1⟩ : ∃ x, (mulS an ad bn bd).2.1 = x := ⟨_, rfl⟩
  obtain ⟨u2, hu2⟩ : ∃ x, (mulS an ad bn bd).2.2 = x := ⟨_, rfl⟩
  have Cu1 := Lib.hid (fun W => mul_any an ad bn bd W)
  have Cu2 := Lib.hid (fun W => rmul_any an ad bn bd W)
  simp only [hu0, hu1, hu2] at Cu1 Cu2
  clear hu0 hu1 hu2
  go_wp2_with fail
  refine (Cy1.out _).mono ?_
  rintro e w3 ⟨rfl, hk3⟩
  clear fA0 fA1 fB0 fB1
  replace PA := Lib.hid (PA.out.kept hk3)
  replace PB := Lib.hid (PB.out.kept hk3)
  replace PX := Lib.hid (PX.out.kept hk3)
  replace PY := Lib.hid (PY.out.kept hk3)
  have T3 := Lib.hid hk3
  have sX0 := (PX.out 0 _ rfl).1
  have sX1 := (PX.out 1 _ rfl).1
  have sX2 := (PX.out 0 _ rfl).2
  have sX3 := (PX.out 1 _ rfl).2
  replace PA := Lib.hid ((PA.out.far (b' := w1.heap.size) (j := 0) (by omega) (.int .i64 y0)).far (b' := w1.heap.size) (j := 1) (by omega) (.int .i64 y1))
  replace PB := Lib.hid ((PB.out.far (b' := w1.heap.size) (j := 0) (by omega) (.int .i64 y0)).far (b' := w1.heap.size) (j := 1) (by omega) (.int .i64 y1))
  replace PY := Lib.hid ((PY.out.far (b' := w1.heap.size) (j := 0) (by omega) (.int .i64 y0)).far (b' := w1.heap.size) (j := 1) (by omega) (.int .i64 y1))
  replace PX := Lib.hid ((PX.out.put (j := 0) (by simp) (.int .i64 y0)).put (j := 1) (by simp) (.int .i64 y1))
  have fA0 := (PA.out 0 _ rfl).1
  have fA1 := (PA.out 1 _ rfl).1
  have fB0 := (PB.out 0 _ rfl).1
  have fB1 := (PB.out 1 _ rfl).1
  clear hk3
  go_wp2_with fail
  refine (Cy2.out _).mono ?_
  rintro e w4 ⟨rfl, hk4⟩
  clear fA0 fA1 fB0 fB1 sX0 sX1 sX2 sX3
  replace PA := Lib.hid (PA.out.kept hk4)
  replace PB := Lib.hid (PB.out.kept hk4)
  replace PX := Lib.hid (PX.out.kept hk4)
  replace PY := Lib.hid (PY.out.kept hk4)
  have T4 := Lib.hid hk4
  have sY0 := (PY.out 0 _ rfl).1
  have sY1 := (PY.out 1 _ rfl).1
  have sY2 := (PY.out 0 _ rfl).2
  have sY3 := (PY.out 1 _ rfl).2
  replace PA := Lib.hid ((PA.out.far (b' := w2.heap.size) (j := 0) (by omega) (.int .i64 y0)).far (b' := w2.heap.size) (j := 1) (by omega) (.int .i64 y1))
  replace PB := Lib.hid ((PB.out.far (b' := w2.heap.size) (j := 0) (by omega) (.int .i64 y0)).far (b' := w2.heap.size) (j := 1) (by omega) (.int .i64 y1))
  replace PX := Lib.hid ((PX.out.far (b' := w2.heap.size) (j := 0) (by omega) (.int .i64 y0)).far (b' := w2.heap.size) (j := 1) (by omega) (.int .i64 y1))
  replace PY := Lib.hid ((PY.out.put (j := 0) (by simp) (.int .i64 y0)).put (j := 1) (by simp) (.int .i64 y1))
  have fA0 := (PA.out 0 _ rfl).1
  have fA1 := (PA.out 1 _ rfl).1
  have fB0 := (PB.out 0 _ rfl).1
  have fB1 := (PB.out 1 _ rfl).1
  clear hk4
  go_wp2_with fail
  refine (Cz1.out _).mono ?_
  rintro e w5 ⟨rfl, hk5⟩
  clear fA0 fA1 fB0 fB1 sY0 sY1 sY2 sY3
  have PZ := Lib.hid (RowC.new w5 [.int .i64 z0, .int .i64 z1] 23)
  replace PA := Lib.hid ((PA.out.kept hk5).kept ((Kept.refl _).alloc (.cells #[.int .i64 z0, .int .i64 z1] 23)))
  replace PB := Lib.hid ((PB.out.kept hk5).kept ((Kept.refl _).alloc (.cells #[.int .i64 z0, .int .i64 z1] 23)))
  replace PX := Lib.hid ((PX.out.kept hk5).kept ((Kept.refl _).alloc (.cells #[.int .i64 z0, .int .i64 z1] 23)))
  replace PY := Lib.hid ((PY.out.kept hk5).kept ((Kept.refl _).alloc (.cells #[.int .i64 z0, .int .i64 z1] 23)))
  have T5 := Lib.hid hk5
  have fA0 := (PA.out 0 _ rfl).1
  have fA1 := (PA.out 1 _ rfl).1
  have fB0 := (PB.out 0 _ rfl).1
  have fB1 := (PB.out 1 _ rfl).1
  clear hk5
  go_wp2_with fail
  refine (Cz2.out _).mono ?_
  rintro e w6 ⟨rfl, hk6⟩
  clear fA0 fA1 fB0 fB1
  have PV := Lib.hid (RowC.new w6 [.int .i64 z0, .int .i64 z1] 23)
  replace PA := Lib.hid ((PA.out.kept hk6).kept ((Kept.refl _).alloc (.cells #[.int .i64 z0, .int .i64 z1] 23)))
  replace PB := Lib.hid ((PB.out.kept hk6).kept ((Kept.refl _).alloc (.cells #[.int .i64 z0, .int .i64 z1] 23)))
  replace PX := Lib.hid ((PX.out.kept hk6).kept ((Kept.refl _).alloc (.cells #[.int .i64 z0, .int .i64 z1] 23)))
  replace PY := Lib.hid ((PY.out.kept hk6).kept ((Kept.refl _).alloc (.cells #[.int .i64 z0, .int .i64 z1] 23)))
  replace PZ := Lib.hid ((PZ.out.kept hk6).kept ((Kept.refl _).alloc (.cells #[.int .i64 z0, .int .i64 z1] 23)))
  have T6 := Lib.hid hk6
  have fA0 := (PA.out 0 _ rfl).1
  have fA1 := (PA.out 1 _ rfl).1
  have fB0 := (PB.out 0 _ rfl).1
  have fB1 := (PB.out 1 _ rfl).1
  clear hk6
  go_wp2_with fail
  refine (Cu1.out _).mono ?_
  rintro e w7 ⟨rfl, hk7⟩
  clear fA0 fA1 fB0 fB1
  have PU := Lib.hid (RowC.new w7 [.int .i64 u0, .int .i64 u1] 23)
  replace PA := Lib.hid ((PA.out.kept hk7).kept ((Kept.refl _).alloc (.cells #[.int .i64 u0, .int .i64 u1] 23)))
  replace PB := Lib.hid ((PB.out.kept hk7).kept ((Kept.refl _).alloc (.cells #[.int .i64 u0, .int .i64 u1] 23)))
  replace PX := Lib.hid ((PX.out.kept hk7).kept ((Kept.refl _).alloc (.cells #[.int .i64 u0, .int .i64 u1] 23)))
  replace PY := Lib.hid ((PY.out.kept hk7).kept ((Kept.refl _).alloc (.cells #[.int .i64 u0, .int .i64 u1] 23)))
  replace PZ := Lib.hid ((PZ.out.kept hk7).kept ((Kept.refl _).alloc (.cells #[.int .i64 u0, .int .i64 u1] 23)))
  replace PV := Lib.hid ((PV.out.kept hk7).kept ((Kept.refl _).alloc (.cells #[.int .i64 u0, .int .i64 u1] 23)))
  have T7 := Lib.hid hk7
  have fA0 := (PA.out 0 _ rfl).1
  have fA1 := (PA.out 1 _ rfl).1
  have fB0 := (PB.out 0 _ rfl).1
  have fB1 := (PB.out 1 _ rfl).1
  clear hk7
  go_wp2_with fail
  refine (Cu2.out _).mono ?_
  rintro e w8 ⟨rfl, hk8⟩
  clear fA0 fA1 fB0 fB1
  have PT := Lib.hid (RowC.new w8 [.int .i64 u0, .int .i64 u1] 23)
  replace PA := Lib.hid ((PA.out.kept hk8).kept ((Kept.refl _).alloc (.cells #[.int .i64 u0, .int .i64 u1] 23)))
  replace PB := Lib.hid ((PB.out.kept hk8).kept ((Kept.refl _).alloc (.cells #[.int .i64 u0, .int .i64 u1] 23)))
  replace PX := Lib.hid ((PX.out.kept hk8).kept ((Kept.refl _).alloc (.cells #[.int .i64 u0, .int .i64 u1] 23)))
  replace PY := Lib.hid ((PY.out.kept hk8).kept ((Kept.refl _).alloc (.cells #[.int .i64 u0, .int .i64 u1] 23)))
  replace PZ := Lib.hid ((PZ.out.kept hk8).kept ((Kept.refl _).alloc (.cells #[.int .i64 u0, .int .i64 u1] 23)))
  replace PV := Lib.hid ((PV.out.kept hk8).kept ((Kept.refl _).alloc (.cells #[.int .i64 u0, .int .i64 u1] 23)))
  replace PU := Lib.hid ((PU.out.kept hk8).kept ((Kept.refl _).alloc (.cells #[.int .i64 u0, .int .i64 u1] 23)))
  have T8 := Lib.hid hk8
  have fA0 := (PA.out 0 _ rfl).1
  have fA1 := (PA.out 1 _ rfl).1
  have fB0 := (PB.out 0 _ rfl).1
  have fB1 := (PB.out 1 _ rfl).1
  clear hk8
  have K8 : Kept w (w8.alloc (.cells #[.int .i64 u0, .int .i64 u1] 23)) := by
    have k2 := (HK0.out.trans HK2.out).trans KS.out
    have k4 := (((k2.trans T3.out).setCell (p := ⟨w1.heap.size, 0, none⟩) (by simp; omega) _).setCell (p := ⟨w1.heap.size, 1, none⟩) (by simp; omega) _).trans T4.out
    have k5 := ((k4.setCell (p := ⟨w2.heap.size, 0, none⟩) (by simp; omega) _).setCell (p := ⟨w2.heap.size, 1, none⟩) (by simp; omega) _).trans T5.out
    exact ((((((k5.alloc _).trans T6.out).alloc _).trans T7.out).alloc _).trans T8.out).alloc _
  have HK8 := Lib.hid K8
  clear K8
  go_wp2_with fail
  refine (alive_any _ (HE.out.kept HK8.out)).mono ?_
  rintro e w9 ⟨rfl, hk9⟩
  clear fA0 fA1 fB0 fB1
  have gX0 := (PX.out.kept hk9 0 _ rfl).1
  have gX1 := (PX.out.kept hk9 1 _ rfl).1
  have gY0 := (PY.out.kept hk9 0 _ rfl).1
  have gY1 := (PY.out.kept hk9 1 _ rfl).1
  have gZ0 := (PZ.out.kept hk9 0 _ rfl).1
  have gZ1 := (PZ.out.kept hk9 1 _ rfl).1
  have gV0 := (PV.out.kept hk9 0 _ rfl).1
  have gV1 := (PV.out.kept hk9 1 _ rfl).1
  have gU0 := (PU.out.kept hk9 0 _ rfl).1
  have gU1 := (PU.out.kept hk9 1 _ rfl).1
  have gT0 := (PT.out.kept hk9 0 _ rfl).1
  have gT1 := (PT.out.kept hk9 1 _ rfl).1
  have HK9 := Lib.hid (HK8.out.trans hk9)
  clear hk9
  go_wp2_with fail
  go_ret
  exact ⟨rfl, HK9.out⟩
end Go.Proofs.YtcjpecdnenemaaaGreatDoor
