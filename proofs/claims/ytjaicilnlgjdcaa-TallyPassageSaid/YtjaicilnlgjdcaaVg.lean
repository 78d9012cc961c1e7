/- the reference's OfCount -/
import Derived.Test.YtjaicilnlgjdcaaTj
import Derived.Test.YtjaicilnlgjdcaaTm
import Derived.Deep.DeepCutAuto
import Derived.Deep.RegionHeld3
namespace Go.Proofs.Ytjaicilnlgjdcaa
set_option linter.all false
open Go.RowKit

theorem take_at {P : Program} {ops : Array Oper} {Q : Exit → Act → World → Prop} {md : Region.Mode} {S : World → Prop} {i : Nat} {oi : Oper} {d : Option Tmp} {v : Value} {fuel : Nat} {listed : Array Bool} {a : Act} {w : World} (hi : ops[i]? = some oi) (hd : oi.dst = d)
    (hs : Region.noSelect ops = true) (hf : Region.free md ops listed i = true) (hr : (Region.ready md ops listed).contains i = true)
    (hQ : ∀ c a w, Q (.panic c) (a.put oi.dst v) w → Q (.panic c) a w) (hy : YieldsIf P ops S oi v a) (hS : S w)
    (h : wpAnyH P md ops Q S fuel (listed.setIfInBounds i true) (a.put d v) w) : wpAnyH P md ops Q S (fuel + 1) listed a w := by
  subst hd
  exact wpAnyH_take hi hs hf hr hQ hy hS h

set_option maxRecDepth 100000 in
set_option maxHeartbeats 4000000 in
theorem rofCount_any (m d i dy s n x : Int) (w : World) :
    Calls Try.prog 27 #[.agg #[.int .i64 m, .int .i64 d], .agg #[.int .i64 i, .int .i64 dy, .int .i64 s, .int .i64 n, .int .i64 x]] w fun e w' => e = .returned (.tuple #[.agg #[.int .i64 (ocI m d i dy s n x).1, .int .i64 (ocI m d i dy s n x).2.1, .bool (ocI m d i dy s n x).2.2], .int .i64 (errI (ocOk m d i dy s n x))]) ∧ Kept w w' := by
  obtain ⟨W0, hW0⟩ : ∃ W0, W0 = ((w.alloc (.cells #[.int .i64 m, .int .i64 d] 23)).alloc (.cells #[.int .i64 i, .int .i64 dy, .int .i64 s, .int .i64 n, .int .i64 x] 25)).alloc (.cells #[.int .i64 0, .int .i64 0, .bool false] 34) := ⟨_, rfl⟩
  have k0 : Kept w W0 := by rw [hW0]; exact ((((Kept.refl _).alloc _).alloc _).alloc _)
  have c00 : W0.cell? ⟨w.heap.size, 0, none⟩ = some (.int .i64 m) := by rw [hW0]; exact cellOld _ (cellOld _ (cellNew (by simp) rfl))
  have c01 : W0.cell? ⟨w.heap.size, 1, none⟩ = some (.int .i64 d) := by rw [hW0]; exact cellOld _ (cellOld _ (cellNew (by simp) rfl))
  have c10 : W0.cell? ⟨w.heap.size + 1, 0, none⟩ = some (.int .i64 i) := by rw [hW0]; exact cellOld _ (cellNew (by simp) rfl)
  have c11 : W0.cell? ⟨w.heap.size + 1, 1, none⟩ = some (.int .i64 dy) := by rw [hW0]; exact cellOld _ (cellNew (by simp) rfl)
  have c12 : W0.cell? ⟨w.heap.size + 1, 2, none⟩ = some (.int .i64 s) := by rw [hW0]; exact cellOld _ (cellNew (by simp) rfl)
  have c13 : W0.cell? ⟨w.heap.size + 1, 3, none⟩ = some (.int .i64 n) := by rw [hW0]; exact cellOld _ (cellNew (by simp) rfl)
  have c14 : W0.cell? ⟨w.heap.size + 1, 4, none⟩ = some (.int .i64 x) := by rw [hW0]; exact cellOld _ (cellNew (by simp) rfl)
  have c20 : W0.cell? ⟨w.heap.size + 1 + 1, 0, none⟩ = some (.int .i64 0) := by rw [hW0]; exact cellNew (by simp) rfl
  have f20 : W0.frozen? ⟨w.heap.size + 1 + 1, 0, none⟩ = false := by rw [hW0]; simp [go_sem]
  have c21 : W0.cell? ⟨w.heap.size + 1 + 1, 1, none⟩ = some (.int .i64 0) := by rw [hW0]; exact cellNew (by simp) rfl
  have f21 : W0.frozen? ⟨w.heap.size + 1 + 1, 1, none⟩ = false := by rw [hW0]; simp [go_sem]
  have c22 : W0.cell? ⟨w.heap.size + 1 + 1, 2, none⟩ = some (.bool false) := by rw [hW0]; exact cellNew (by simp) rfl
  have f22 : W0.frozen? ⟨w.heap.size + 1 + 1, 2, none⟩ = false := by rw [hW0]; simp [go_sem]
  have BR : RowKit.Hid (∀ W, Kept W0 W → W.cell? ⟨w.heap.size, 0, none⟩ = some (.int .i64 m) ∧ W.cell? ⟨w.heap.size, 1, none⟩ = some (.int .i64 d) ∧ W.cell? ⟨w.heap.size + 1, 0, none⟩ = some (.int .i64 i) ∧ W.cell? ⟨w.heap.size + 1, 1, none⟩ = some (.int .i64 dy) ∧ W.cell? ⟨w.heap.size + 1, 2, none⟩ = some (.int .i64 s) ∧ W.cell? ⟨w.heap.size + 1, 3, none⟩ = some (.int .i64 n) ∧ W.cell? ⟨w.heap.size + 1, 4, none⟩ = some (.int .i64 x) ∧ W.cell? ⟨w.heap.size + 1 + 1, 0, none⟩ = some (.int .i64 0) ∧ W.frozen? ⟨w.heap.size + 1 + 1, 0, none⟩ = false ∧ W.cell? ⟨w.heap.size + 1 + 1, 1, none⟩ = some (.int .i64 0) ∧ W.frozen? ⟨w.heap.size + 1 + 1, 1, none⟩ = false ∧ W.cell? ⟨w.heap.size + 1 + 1, 2, none⟩ = some (.bool false) ∧ W.frozen? ⟨w.heap.size + 1 + 1, 2, none⟩ = false) := Lib.hid (fun W hW => ⟨(hW.cells _ _ (cell_lt c00)).trans c00, (hW.cells _ _ (cell_lt c01)).trans c01, (hW.cells _ _ (cell_lt c10)).trans c10, (hW.cells _ _ (cell_lt c11)).trans c11, (hW.cells _ _ (cell_lt c12)).trans c12, (hW.cells _ _ (cell_lt c13)).trans c13, (hW.cells _ _ (cell_lt c14)).trans c14, (hW.cells _ _ (cell_lt c20)).trans c20, (hW.frozens _ _ (cell_lt c20)).trans f20, (hW.cells _ _ (cell_lt c21)).trans c21, (hW.frozens _ _ (cell_lt c21)).trans f21, (hW.cells _ _ (cell_lt c22)).trans c22, (hW.frozens _ _ (cell_lt c22)).trans f22⟩)
  have Z0 : W0.heap.size = w.heap.size + 1 + 1 + 1 := by rw [hW0]; simp
  have ZZ := Lib.hid Z0
  have HW := Lib.hid hW0
  have K0 := Lib.hid k0
  clear hW0 k0 Z0
  have kk := Kept.refl W0
  have b0 := cell_lt c00
  have b1 := cell_lt c10
  have b2 := cell_lt c20
  rcases h1 : rateB m d with _ | _
  · have g0 : errI (rateB m d) = 1 := by rw [h1]; rfl
    have H0 := Lib.hid h1
    clear h1
    have HS : RowKit.Hid (((.tuple #[.agg #[.int .i64 (ocI m d i dy s n x).1, .int .i64 (ocI m d i dy s n x).2.1, .bool (ocI m d i dy s n x).2.2], .int .i64 (errI (ocOk m d i dy s n x))]) : Value) = .tuple #[.agg #[.int .i64 0, .int .i64 0, .bool false], .int .i64 1]) := Lib.hid (by simp [ocI, ocOk, spI, errI_true, errI_false, H0.out])
    go_enter Try.func27, Try.ntmps27
    go_upto_region 1 with (fail)
    rw [← HW.out]
    go_wp2_with (first
        | (go_at_call 21; refine (rrate_any m d _).mono ?_; rintro e w1 ⟨rfl, hk⟩; replace kk := (by first | with_reducible exact kk.trans hk | with_reducible exact (kk.alloc _).trans hk | with_reducible exact kk.drew.trans hk | with_reducible exact (kk.drew.alloc _).trans hk | with_reducible exact (kk.alloc _).drew.trans hk | with_reducible exact ((kk.alloc _).alloc _).trans hk | with_reducible exact ((kk.drew.alloc _).alloc _).trans hk | fail); obtain ⟨c00, c01, c10, c11, c12, c13, c14, c20, f20, c21, f21, c22, f22⟩ := BR.out _ kk; have b0 := cell_lt c00; have b1 := cell_lt c10; have b2 := cell_lt c20)
        | (go_at_call 23; refine (rcount_any i dy s n x _).mono ?_; rintro e w1 ⟨rfl, hk⟩; replace kk := (by first | with_reducible exact kk.trans hk | with_reducible exact (kk.alloc _).trans hk | with_reducible exact kk.drew.trans hk | with_reducible exact (kk.drew.alloc _).trans hk | with_reducible exact (kk.alloc _).drew.trans hk | with_reducible exact ((kk.alloc _).alloc _).trans hk | with_reducible exact ((kk.drew.alloc _).alloc _).trans hk | fail); obtain ⟨c00, c01, c10, c11, c12, c13, c14, c20, f20, c21, f21, c22, f22⟩ := BR.out _ kk; have b0 := cell_lt c00; have b1 := cell_lt c10; have b2 := cell_lt c20)
        | fail)
    refine bodyPost_ret (v := .tuple #[.agg #[.int .i64 0, .int .i64 0, .bool false], .int .i64 1]) (by simp [results, Try.results27, go_sem, c20, c21, c22]) rfl ⟨by rw [HS.out], ?_⟩
    exact (((K0.out.trans kk).setCell (by simp; try omega) _).setCell (by simp; try omega) _).setCell (by simp; try omega) _
  · rcases h2 : countB i dy s n x with _ | _
    · have g0 : errI (rateB m d) = 0 := by rw [h1]; rfl
      have g1 : errI (countB i dy s n x) = 1 := by rw [h2]; rfl
      have H0 := Lib.hid h1
      have H1 := Lib.hid h2
      clear h1 h2
      have HS : RowKit.Hid (((.tuple #[.agg #[.int .i64 (ocI m d i dy s n x).1, .int .i64 (ocI m d i dy s n x).2.1, .bool (ocI m d i dy s n x).2.2], .int .i64 (errI (ocOk m d i dy s n x))]) : Value) = .tuple #[.agg #[.int .i64 0, .int .i64 0, .bool false], .int .i64 1]) := Lib.hid (by simp [ocI, ocOk, spI, errI_true, errI_false, H0.out, H1.out])
      go_enter Try.func27, Try.ntmps27
      go_upto_region 1 with (fail)
      rw [← HW.out]
      go_wp2_with (first
        | (go_at_call 21; refine (rrate_any m d _).mono ?_; rintro e w1 ⟨rfl, hk⟩; replace kk := (by first | with_reducible exact kk.trans hk | with_reducible exact (kk.alloc _).trans hk | with_reducible exact kk.drew.trans hk | with_reducible exact (kk.drew.alloc _).trans hk | with_reducible exact (kk.alloc _).drew.trans hk | with_reducible exact ((kk.alloc _).alloc _).trans hk | with_reducible exact ((kk.drew.alloc _).alloc _).trans hk | fail); obtain ⟨c00, c01, c10, c11, c12, c13, c14, c20, f20, c21, f21, c22, f22⟩ := BR.out _ kk; have b0 := cell_lt c00; have b1 := cell_lt c10; have b2 := cell_lt c20)
        | (go_at_call 23; refine (rcount_any i dy s n x _).mono ?_; rintro e w1 ⟨rfl, hk⟩; replace kk := (by first | with_reducible exact kk.trans hk | with_reducible exact (kk.alloc _).trans hk | with_reducible exact kk.drew.trans hk | with_reducible exact (kk.drew.alloc _).trans hk | with_reducible exact (kk.alloc _).drew.trans hk | with_reducible exact ((kk.alloc _).alloc _).trans hk | with_reducible exact ((kk.drew.alloc _).alloc _).trans hk | fail); obtain ⟨c00, c01, c10, c11, c12, c13, c14, c20, f20, c21, f21, c22, f22⟩ := BR.out _ kk; have b0 := cell_lt c00; have b1 := cell_lt c10; have b2 := cell_lt c20)
        | fail)
      refine bodyPost_ret (v := .tuple #[.agg #[.int .i64 0, .int .i64 0, .bool false], .int .i64 1]) (by simp [results, Try.results27, go_sem, c20, c21, c22]) rfl ⟨by rw [HS.out], ?_⟩
      exact (((K0.out.trans kk).setCell (by simp; try omega) _).setCell (by simp; try omega) _).setCell (by simp; try omega) _
    · have g0 : errI (rateB m d) = 0 := by rw [h1]; rfl
      have g1 : errI (countB i dy s n x) = 0 := by rw [h2]; rfl
      have H0 := Lib.hid h1
      have H1 := Lib.hid h2
      clear h1 h2
      have HS : RowKit.Hid (((.tuple #[.agg #[.int .i64 (ocI m d i dy s n x).1, .int .i64 (ocI m d i dy s n x).2.1, .bool (ocI m d i dy s n x).2.2], .int .i64 (errI (ocOk m d i dy s n x))]) : Value) = .tuple #[.agg #[.int .i64 (spL (leastOf d n) (mostOf m (n + x))), .int .i64 (spH (leastOf d n) (mostOf m (n + x))), .bool (spS (leastOf d n) (mostOf m (n + x)))], .int .i64 0]) := Lib.hid (by simp [ocI, ocOk, spI, errI_true, errI_false, H0.out, H1.out])
      obtain ⟨⟨hm, hm1⟩, hd, hd1⟩ := rateB_bd H0.out
      obtain ⟨⟨hn, hn1⟩, hx, hx1⟩ := countB_bd H1.out
      have hw : IntKind.i64.wrap (n + x) = n + x := IntWalk.i64_in _ (by omega)
      obtain ⟨a, ha⟩ : ∃ a : Int, a = (leastOf d n : Nat) := ⟨_, rfl⟩
      obtain ⟨b, hb⟩ : ∃ b, b = mostOf m (n + x) := ⟨_, rfl⟩
      rw [← ha, ← hb] at HS
      have H73 : RowKit.Hid (∀ W, Calls Try.prog 73 #[.agg #[.int .i64 m, .int .i64 d], .int .i64 n] W fun e w' => e = .returned (.int .i64 a) ∧ Kept W w') := Lib.hid (fun W => by rw [ha]; exact rleast_any m d n hm hm1 hd hd1 W)
      have H74 : RowKit.Hid (∀ W, Calls Try.prog 74 #[.agg #[.int .i64 m, .int .i64 d], .int .i64 (n + x)] W fun e w' => e = .returned (.int .i64 b) ∧ Kept W w') := Lib.hid (fun W => by rw [hb]; exact rgreatest_any m d (n + x) hm hm1 hd hd1 W)
      clear ha hb
      obtain ⟨y0, hy0⟩ : ∃ y, y = spL a b := ⟨_, rfl⟩
      obtain ⟨y1, hy1⟩ : ∃ y, y = spH a b := ⟨_, rfl⟩
      obtain ⟨y2, hy2⟩ : ∃ y, y = spS a b := ⟨_, rfl⟩
      rw [← hy0, ← hy1, ← hy2] at HS
      have H72 : RowKit.Hid (∀ W, Calls Try.prog 72 #[.int .i64 a, .int .i64 b] W fun e w' => e = .returned (.agg #[.int .i64 y0, .int .i64 y1, .bool y2]) ∧ Kept W w') := Lib.hid (fun W => by rw [hy0, hy1, hy2]; exact span_any a b W)
      clear hy0 hy1 hy2
      have HST : RowKit.Hid (∀ W W', (W.cell? ⟨w.heap.size, 0, none⟩ = some (.int .i64 m) ∧ W.cell? ⟨w.heap.size, 1, none⟩ = some (.int .i64 d) ∧ W.cell? ⟨w.heap.size + 1, 0, none⟩ = some (.int .i64 i) ∧ W.cell? ⟨w.heap.size + 1, 1, none⟩ = some (.int .i64 dy) ∧ W.cell? ⟨w.heap.size + 1, 2, none⟩ = some (.int .i64 s) ∧ W.cell? ⟨w.heap.size + 1, 3, none⟩ = some (.int .i64 n) ∧ W.cell? ⟨w.heap.size + 1, 4, none⟩ = some (.int .i64 x) ∧ (∃ v0 v1 v2, W.cell? ⟨w.heap.size + 1 + 1, 0, none⟩ = some v0 ∧ W.cell? ⟨w.heap.size + 1 + 1, 1, none⟩ = some v1 ∧ W.cell? ⟨w.heap.size + 1 + 1, 2, none⟩ = some v2 ∧ W.frozen? ⟨w.heap.size + 1 + 1, 0, none⟩ = false ∧ W.frozen? ⟨w.heap.size + 1 + 1, 1, none⟩ = false ∧ W.frozen? ⟨w.heap.size + 1 + 1, 2, none⟩ = false) ∧ Kept w W) → Kept W W' → W'.cell? ⟨w.heap.size, 0, none⟩ = some (.int .i64 m) ∧ W'.cell? ⟨w.heap.size, 1, none⟩ = some (.int .i64 d) ∧ W'.cell? ⟨w.heap.size + 1, 0, none⟩ = some (.int .i64 i) ∧ W'.cell? ⟨w.heap.size + 1, 1, none⟩ = some (.int .i64 dy) ∧ W'.cell? ⟨w.heap.size + 1, 2, none⟩ = some (.int .i64 s) ∧ W'.cell? ⟨w.heap.size + 1, 3, none⟩ = some (.int .i64 n) ∧ W'.cell? ⟨w.heap.size + 1, 4, none⟩ = some (.int .i64 x) ∧ (∃ v0 v1 v2, W'.cell? ⟨w.heap.size + 1 + 1, 0, none⟩ = some v0 ∧ W'.cell? ⟨w.heap.size + 1 + 1, 1, none⟩ = some v1 ∧ W'.cell? ⟨w.heap.size + 1 + 1, 2, none⟩ = some v2 ∧ W'.frozen? ⟨w.heap.size + 1 + 1, 0, none⟩ = false ∧ W'.frozen? ⟨w.heap.size + 1 + 1, 1, none⟩ = false ∧ W'.frozen? ⟨w.heap.size + 1 + 1, 2, none⟩ = false) ∧ Kept w W') := Lib.hid (fun W W' h hk => by
        obtain ⟨a0, a1, e0, e1, e2, e3, e4, ⟨v0, v1, v2, g0, g1, g2, f0, f1, f2⟩, hw⟩ := h
        exact ⟨(hk.cells _ _ (cell_lt a0)).trans a0, (hk.cells _ _ (cell_lt a1)).trans a1, (hk.cells _ _ (cell_lt e0)).trans e0, (hk.cells _ _ (cell_lt e1)).trans e1, (hk.cells _ _ (cell_lt e2)).trans e2, (hk.cells _ _ (cell_lt e3)).trans e3, (hk.cells _ _ (cell_lt e4)).trans e4, ⟨v0, v1, v2, (hk.cells _ _ (cell_lt g0)).trans g0, (hk.cells _ _ (cell_lt g1)).trans g1, (hk.cells _ _ (cell_lt g2)).trans g2, (hk.frozens _ _ (cell_lt g0)).trans f0, (hk.frozens _ _ (cell_lt g1)).trans f1, (hk.frozens _ _ (cell_lt g2)).trans f2⟩, hw.trans hk⟩)
      go_enter Try.func27, Try.ntmps27
      go_upto_region 1 with (fail)
      rw [← HW.out]
      go_wp2_with (first
        | (go_at_call 21; refine (rrate_any m d _).mono ?_; rintro e w1 ⟨rfl, hk⟩; replace kk := (by first | with_reducible exact kk.trans hk | with_reducible exact (kk.alloc _).trans hk | with_reducible exact kk.drew.trans hk | with_reducible exact (kk.drew.alloc _).trans hk | with_reducible exact (kk.alloc _).drew.trans hk | with_reducible exact ((kk.alloc _).alloc _).trans hk | with_reducible exact ((kk.drew.alloc _).alloc _).trans hk | fail); obtain ⟨c00, c01, c10, c11, c12, c13, c14, c20, f20, c21, f21, c22, f22⟩ := BR.out _ kk; have b0 := cell_lt c00; have b1 := cell_lt c10; have b2 := cell_lt c20)
        | (go_at_call 23; refine (rcount_any i dy s n x _).mono ?_; rintro e w1 ⟨rfl, hk⟩; replace kk := (by first | with_reducible exact kk.trans hk | with_reducible exact (kk.alloc _).trans hk | with_reducible exact kk.drew.trans hk | with_reducible exact (kk.drew.alloc _).trans hk | with_reducible exact (kk.alloc _).drew.trans hk | with_reducible exact ((kk.alloc _).alloc _).trans hk | with_reducible exact ((kk.drew.alloc _).alloc _).trans hk | fail); obtain ⟨c00, c01, c10, c11, c12, c13, c14, c20, f20, c21, f21, c22, f22⟩ := BR.out _ kk; have b0 := cell_lt c00; have b1 := cell_lt c10; have b2 := cell_lt c20)
        | fail)
      rename World => wz
      have S0 : RowKit.Hid (wz.drew.cell? ⟨w.heap.size, 0, none⟩ = some (.int .i64 m) ∧ wz.drew.cell? ⟨w.heap.size, 1, none⟩ = some (.int .i64 d) ∧ wz.drew.cell? ⟨w.heap.size + 1, 0, none⟩ = some (.int .i64 i) ∧ wz.drew.cell? ⟨w.heap.size + 1, 1, none⟩ = some (.int .i64 dy) ∧ wz.drew.cell? ⟨w.heap.size + 1, 2, none⟩ = some (.int .i64 s) ∧ wz.drew.cell? ⟨w.heap.size + 1, 3, none⟩ = some (.int .i64 n) ∧ wz.drew.cell? ⟨w.heap.size + 1, 4, none⟩ = some (.int .i64 x) ∧ (∃ v0 v1 v2, wz.drew.cell? ⟨w.heap.size + 1 + 1, 0, none⟩ = some v0 ∧ wz.drew.cell? ⟨w.heap.size + 1 + 1, 1, none⟩ = some v1 ∧ wz.drew.cell? ⟨w.heap.size + 1 + 1, 2, none⟩ = some v2 ∧ wz.drew.frozen? ⟨w.heap.size + 1 + 1, 0, none⟩ = false ∧ wz.drew.frozen? ⟨w.heap.size + 1 + 1, 1, none⟩ = false ∧ wz.drew.frozen? ⟨w.heap.size + 1 + 1, 2, none⟩ = false) ∧ Kept w wz.drew) := Lib.hid ⟨c00, c01, c10, c11, c12, c13, c14, ⟨_, _, _, c20, c21, c22, f20, f21, f22⟩, (K0.out.trans kk).drew⟩
      refine wp_region_held_drew (S := (fun W => W.cell? ⟨w.heap.size, 0, none⟩ = some (.int .i64 m) ∧ W.cell? ⟨w.heap.size, 1, none⟩ = some (.int .i64 d) ∧ W.cell? ⟨w.heap.size + 1, 0, none⟩ = some (.int .i64 i) ∧ W.cell? ⟨w.heap.size + 1, 1, none⟩ = some (.int .i64 dy) ∧ W.cell? ⟨w.heap.size + 1, 2, none⟩ = some (.int .i64 s) ∧ W.cell? ⟨w.heap.size + 1, 3, none⟩ = some (.int .i64 n) ∧ W.cell? ⟨w.heap.size + 1, 4, none⟩ = some (.int .i64 x) ∧ (∃ v0 v1 v2, W.cell? ⟨w.heap.size + 1 + 1, 0, none⟩ = some v0 ∧ W.cell? ⟨w.heap.size + 1 + 1, 1, none⟩ = some v1 ∧ W.cell? ⟨w.heap.size + 1 + 1, 2, none⟩ = some v2 ∧ W.frozen? ⟨w.heap.size + 1 + 1, 0, none⟩ = false ∧ W.frozen? ⟨w.heap.size + 1 + 1, 1, none⟩ = false ∧ W.frozen? ⟨w.heap.size + 1 + 1, 2, none⟩ = false) ∧ Kept w W)) (by kernel_rfl) (S0.out) (fun hHeld => ?_)
      refine take_at (i := 0) (d := some 15) (v := ?_) rfl rfl (by kernel_rfl) (by kernel_rfl) (by kernel_rfl) (fun _ _ _ h => h) (Or.inl ⟨by rfl, ?_⟩) hHeld ?_
      rotate_left
      · intro w hSw
        try dsimp only at hSw
        go_simp
        try (with_reducible rfl)
      try simp only [Act.put, List.setIfInBounds_toArray, List.set_cons_zero, List.set_cons_succ]
      refine take_at (i := 1) (d := some 16) (v := ?_) rfl rfl (by kernel_rfl) (by kernel_rfl) (by kernel_rfl) (fun _ _ _ h => h) (Or.inl ⟨by rfl, ?_⟩) hHeld ?_
      rotate_left
      · intro w hSw
        try dsimp only at hSw
        go_simp
        try (with_reducible rfl)
      try simp only [Act.put, List.setIfInBounds_toArray, List.set_cons_zero, List.set_cons_succ]
      refine take_at (i := 2) (d := some 17) (v := ?_) rfl rfl (by kernel_rfl) (by kernel_rfl) (by kernel_rfl) (fun _ _ _ h => h) (Or.inl ⟨by rfl, ?_⟩) hHeld ?_
      rotate_left
      · intro w hSw
        try dsimp only at hSw
        go_simp
        try (with_reducible rfl)
      try simp only [Act.put, List.setIfInBounds_toArray, List.set_cons_zero, List.set_cons_succ]
      refine take_at (i := 4) (d := some 19) (v := ?_) rfl rfl (by kernel_rfl) (by kernel_rfl) (by kernel_rfl) (fun _ _ _ h => h) (Or.inl ⟨by rfl, ?_⟩) hHeld ?_
      rotate_left
      · intro w hSw
        try dsimp only at hSw
        go_simp
        try (with_reducible rfl)
      try simp only [Act.put, List.setIfInBounds_toArray, List.set_cons_zero, List.set_cons_succ]
      refine take_at (i := 5) (d := some 20) (v := ?_) rfl rfl (by kernel_rfl) (by kernel_rfl) (by kernel_rfl) (fun _ _ _ h => h) (Or.inl ⟨by rfl, ?_⟩) hHeld ?_
      rotate_left
      · intro w hSw
        try dsimp only at hSw
        go_simp
        try (with_reducible rfl)
      try simp only [Act.put, List.setIfInBounds_toArray, List.set_cons_zero, List.set_cons_succ]
      refine take_at (i := 6) (d := some 21) (v := ?_) rfl rfl (by kernel_rfl) (by kernel_rfl) (by kernel_rfl) (fun _ _ _ h => h) (Or.inl ⟨by rfl, ?_⟩) hHeld ?_
      rotate_left
      · intro w hSw
        try dsimp only at hSw
        go_simp
        try (with_reducible rfl)
      try simp only [Act.put, List.setIfInBounds_toArray, List.set_cons_zero, List.set_cons_succ]
      refine take_at (i := 7) (d := some 22) (v := ?_) rfl rfl (by kernel_rfl) (by kernel_rfl) (by kernel_rfl) (fun _ _ _ h => h) (Or.inl ⟨by rfl, ?_⟩) hHeld ?_
      rotate_left
      · intro w hSw
        try dsimp only at hSw
        go_simp
        try (with_reducible rfl)
      try simp only [Act.put, List.setIfInBounds_toArray, List.set_cons_zero, List.set_cons_succ]
      refine take_at (i := 8) (d := some 23) (v := ?_) rfl rfl (by kernel_rfl) (by kernel_rfl) (by kernel_rfl) (fun _ _ _ h => h) (Or.inl ⟨by rfl, ?_⟩) hHeld ?_
      rotate_left
      · intro w hSw
        try dsimp only at hSw
        go_simp
        try (with_reducible rfl)
      try simp only [Act.put, List.setIfInBounds_toArray, List.set_cons_zero, List.set_cons_succ]
      refine take_at (i := 9) (d := some 24) (v := ?_) rfl rfl (by kernel_rfl) (by kernel_rfl) (by kernel_rfl) (fun _ _ _ h => h) (Or.inl ⟨by rfl, ?_⟩) hHeld ?_
      rotate_left
      · intro w hSw
        try dsimp only at hSw
        go_simp
        try (with_reducible rfl)
      try simp only [Act.put, List.setIfInBounds_toArray, List.set_cons_zero, List.set_cons_succ]
      refine wpAnyH_ready (rs := [3]) (by kernel_rfl) (by simp) ?_
      refine AllReadyH.cons rfl (fun K hK => ?_) AllReadyH.nil
      rw [if_pos (by rfl)]
      go_simp
      refine (H73.out _).mono ?_
      rintro e w' ⟨rfl, hkk⟩
      go_wp2_with fail
      refine hK.out _ _ (HST.out _ _ hHeld hkk) (fun hHeld => ?_)
      clear hK K
      try simp only [Act.put, List.setIfInBounds_toArray, List.set_cons_zero, List.set_cons_succ]
      refine wpAnyH_ready (rs := [10]) (by kernel_rfl) (by simp) ?_
      refine AllReadyH.cons rfl (fun K hK => ?_) AllReadyH.nil
      rw [if_pos (by rfl)]
      go_simp
      refine (H74.out _).mono ?_
      rintro e w' ⟨rfl, hkk⟩
      go_wp2_with fail
      refine hK.out _ _ (HST.out _ _ hHeld hkk) (fun hHeld => ?_)
      clear hK K
      try simp only [Act.put, List.setIfInBounds_toArray, List.set_cons_zero, List.set_cons_succ]
      refine wpAnyH_ready (rs := [11]) (by kernel_rfl) (by simp) ?_
      refine AllReadyH.cons rfl (fun K hK => ?_) AllReadyH.nil
      rw [if_pos (by rfl)]
      go_simp
      refine (H72.out _).mono ?_
      rintro e w' ⟨rfl, hkk⟩
      go_wp2_with fail
      refine hK.out _ _ (HST.out _ _ hHeld hkk) (fun hHeld => ?_)
      clear hK K
      try simp only [Act.put, List.setIfInBounds_toArray, List.set_cons_zero, List.set_cons_succ]
      refine wpAnyH_ready (rs := [12]) (by kernel_rfl) (by simp) ?_
      refine AllReadyH.cons rfl (fun K hK => ?_) AllReadyH.nil
      obtain ⟨a0, a1, e0, e1, e2, e3, e4, ⟨v0, v1, v2, g0, g1, g2, f0, f1, f2⟩, hw0⟩ := hHeld
      rename World => wy
      rw [if_pos (by rfl)]
      go_simp
      have rz : RowC wy (w.heap.size + 1 + 1) [v0, v1, v2] := fun j v hv => by
        match j with
        | 0 => cases hv; exact ⟨g0, f0⟩
        | 1 => cases hv; exact ⟨g1, f1⟩
        | 2 => cases hv; exact ⟨g2, f2⟩
        | j + 3 => simp at hv
      obtain ⟨wx, hwx⟩ : ∃ wx, wx = ((wy.setCell ⟨w.heap.size + 1 + 1, 0, none⟩ (.int .i64 y0)).setCell ⟨w.heap.size + 1 + 1, 1, none⟩ (.int .i64 y1)).setCell ⟨w.heap.size + 1 + 1, 2, none⟩ (.bool y2) := ⟨_, rfl⟩
      have far : ∀ b j, b ≠ w.heap.size + 1 + 1 → wx.cell? ⟨b, j, none⟩ = wy.cell? ⟨b, j, none⟩ := fun b j hb => by
        rw [hwx, World.cell?_setCell_far _ _ _ _ (by simpa using Ne.symm hb), World.cell?_setCell_far _ _ _ _ (by simpa using Ne.symm hb), World.cell?_setCell_far _ _ _ _ (by simpa using Ne.symm hb)]
      have rx : RowC wx (w.heap.size + 1 + 1) [.int .i64 y0, .int .i64 y1, .bool y2] := by rw [hwx]; exact ((rz.put (j := 0) (by simp) _).put (j := 1) (by simp) _).put (j := 2) (by simp) _
      have kx : Kept w wx := by rw [hwx]; exact ((hw0.setCell (by simp; try omega) _).setCell (by simp; try omega) _).setCell (by simp; try omega) _
      refine hK.out _ _ (by rw [← hwx]; exact ⟨(far _ _ (by omega)).trans a0, (far _ _ (by omega)).trans a1, (far _ _ (by omega)).trans e0, (far _ _ (by omega)).trans e1, (far _ _ (by omega)).trans e2, (far _ _ (by omega)).trans e3, (far _ _ (by omega)).trans e4, ⟨_, _, _, (rx 0 _ rfl).1, (rx 1 _ rfl).1, (rx 2 _ rfl).1, (rx 0 _ rfl).2, (rx 1 _ rfl).2, (rx 2 _ rfl).2⟩, kx⟩) (fun hHeld => ?_)
      clear hK K
      rw [← hwx] at hHeld ⊢
      try simp only [Act.put, List.setIfInBounds_toArray, List.set_cons_zero, List.set_cons_succ]
      have q0 := (rx 0 _ rfl).1
      have q1 := (rx 1 _ rfl).1
      have q2 := (rx 2 _ rfl).1
      clear far hwx a0 a1 e0 e1 e2 e3 e4 g0 g1 g2 f0 f1 f2 rz rx c00 c01 c10 c11 c12 c13 c14 c20 c21 c22 f20 f21 f22
      refine take_at (i := 13) (d := some 5) (v := ?_) rfl rfl (by kernel_rfl) (by kernel_rfl) (by kernel_rfl) (fun _ _ _ h => h) (Or.inl ⟨by rfl, ?_⟩) hHeld ?_
      rotate_left
      · intro w hSw
        try dsimp only at hSw
        go_simp
        try (with_reducible rfl)
      try simp only [Act.put, List.setIfInBounds_toArray, List.set_cons_zero, List.set_cons_succ]
      refine wpAnyH_done (by kernel_rfl) ?_ _
      go_wp2
      refine bodyPost_ret (v := .tuple #[.agg #[.int .i64 y0, .int .i64 y1, .bool y2], .int .i64 0]) (by simp [results, Try.results27, go_sem, q0, q1, q2]) rfl ⟨by rw [HS.out], kx⟩
end Go.Proofs.Ytjaicilnlgjdcaa
