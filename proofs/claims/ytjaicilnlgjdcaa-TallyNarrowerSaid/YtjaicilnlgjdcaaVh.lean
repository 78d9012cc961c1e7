/- TallyNarrower -/
import Derived.Test.YtjaicilnlgjdcaaUl
import Derived.Test.YtjaicilnlgjdcaaVd
namespace Go.Proofs.Ytjaicilnlgjdcaa
set_option linter.all false
open Go.RowKit

theorem oc_narrow {m d m2 d2 i dy s nu x uw n : Int} (hn : narB m d m2 d2 = true) (h0 : inB n 0 100000 = true) (h : ocOk m d i dy s nu x = true) (hu : ocOk m d i dy s nu uw = true) (hx : x ≤ uw)
    (hi : inI (ocI m d i dy s nu x).1 (ocI m d i dy s nu x).2.1 (ocI m d i dy s nu x).2.2 n = true) :
    inI (ocI m2 d2 i dy s nu x).1 (ocI m2 d2 i dy s nu x).2.1 (ocI m2 d2 i dy s nu x).2.2 n = true ∧ inI (ocI m d i dy s nu uw).1 (ocI m d i dy s nu uw).2.1 (ocI m d i dy s nu uw).2.2 n = true := by
  obtain ⟨n0, n1⟩ := inB_iff.1 h0
  unfold narB at hn
  simp only [Bool.and_eq_true, decide_eq_true_eq] at hn
  obtain ⟨⟨⟨h1, h2⟩, h3⟩, h4⟩ := hn
  have h5 : ocOk m2 d2 i dy s nu x = true := by unfold ocOk at h ⊢; rw [Bool.and_eq_true] at h ⊢; exact ⟨h2, h.2⟩
  rw [oc_in h n0 n1] at hi
  rw [oc_in h5 n0 n1, oc_in hu n0 n1]
  simp only [Bool.and_eq_true, decide_eq_true_eq] at hi ⊢
  have a1 := loI_rate (n := n) n0 h3
  have a2 := hiI_rate (n := n) n0 h4
  omega
theorem nar_ok {m d m2 d2 i dy s nu x : Int} (hn : narB m d m2 d2 = true) : ocOk m2 d2 i dy s nu x = ocOk m d i dy s nu x := by
  unfold narB at hn
  simp only [Bool.and_eq_true, decide_eq_true_eq] at hn
  unfold ocOk; rw [hn.1.1.1, hn.1.1.2]

set_option maxRecDepth 100000 in
set_option maxHeartbeats 4000000 in
theorem narrowerLaw_any (m d m2 d2 i dy s nu x more n : Int) (hxb : -9223372036854775808 ≤ x ∧ x ≤ 9223372036854775807) (w : World) :
    Calls Try.prog 11 #[.agg #[.int .i64 m, .int .i64 d], .agg #[.int .i64 m2, .int .i64 d2], .agg #[.int .i64 i, .int .i64 dy, .int .i64 s, .int .i64 nu, .int .i64 x], .int .i64 more, .int .i64 n] w fun e w' => e = .returned (.bool true) ∧ Kept w w' := by
  obtain ⟨W0, hW0⟩ : ∃ W0, W0 = ((w.alloc (.cells #[.int .i64 m, .int .i64 d] 23)).alloc (.cells #[.int .i64 m2, .int .i64 d2] 23)).alloc (.cells #[.int .i64 i, .int .i64 dy, .int .i64 s, .int .i64 nu, .int .i64 x] 25) := ⟨_, rfl⟩
  have k0 : Kept w W0 := by rw [hW0]; exact ((((Kept.refl _).alloc _).alloc _).alloc _)
  have c00 : W0.cell? ⟨w.heap.size, 0, none⟩ = some (.int .i64 m) := by rw [hW0]; exact cellOld _ (cellOld _ (cellNew (by simp) rfl))
  have c01 : W0.cell? ⟨w.heap.size, 1, none⟩ = some (.int .i64 d) := by rw [hW0]; exact cellOld _ (cellOld _ (cellNew (by simp) rfl))
  have c10 : W0.cell? ⟨w.heap.size + 1, 0, none⟩ = some (.int .i64 m2) := by rw [hW0]; exact cellOld _ (cellNew (by simp) rfl)
  have c11 : W0.cell? ⟨w.heap.size + 1, 1, none⟩ = some (.int .i64 d2) := by rw [hW0]; exact cellOld _ (cellNew (by simp) rfl)
  have c20 : W0.cell? ⟨w.heap.size + 1 + 1, 0, none⟩ = some (.int .i64 i) := by rw [hW0]; exact cellNew (by simp) rfl
  have c21 : W0.cell? ⟨w.heap.size + 1 + 1, 1, none⟩ = some (.int .i64 dy) := by rw [hW0]; exact cellNew (by simp) rfl
  have c22 : W0.cell? ⟨w.heap.size + 1 + 1, 2, none⟩ = some (.int .i64 s) := by rw [hW0]; exact cellNew (by simp) rfl
  have c23 : W0.cell? ⟨w.heap.size + 1 + 1, 3, none⟩ = some (.int .i64 nu) := by rw [hW0]; exact cellNew (by simp) rfl
  have c24 : W0.cell? ⟨w.heap.size + 1 + 1, 4, none⟩ = some (.int .i64 x) := by rw [hW0]; exact cellNew (by simp) rfl
  have BR : RowKit.Hid (∀ W, Kept W0 W → W.cell? ⟨w.heap.size, 0, none⟩ = some (.int .i64 m) ∧ W.cell? ⟨w.heap.size, 1, none⟩ = some (.int .i64 d) ∧ W.cell? ⟨w.heap.size + 1, 0, none⟩ = some (.int .i64 m2) ∧ W.cell? ⟨w.heap.size + 1, 1, none⟩ = some (.int .i64 d2) ∧ W.cell? ⟨w.heap.size + 1 + 1, 0, none⟩ = some (.int .i64 i) ∧ W.cell? ⟨w.heap.size + 1 + 1, 1, none⟩ = some (.int .i64 dy) ∧ W.cell? ⟨w.heap.size + 1 + 1, 2, none⟩ = some (.int .i64 s) ∧ W.cell? ⟨w.heap.size + 1 + 1, 3, none⟩ = some (.int .i64 nu) ∧ W.cell? ⟨w.heap.size + 1 + 1, 4, none⟩ = some (.int .i64 x)) := Lib.hid (fun W hW => ⟨(hW.cells _ _ (cell_lt c00)).trans c00, (hW.cells _ _ (cell_lt c01)).trans c01, (hW.cells _ _ (cell_lt c10)).trans c10, (hW.cells _ _ (cell_lt c11)).trans c11, (hW.cells _ _ (cell_lt c20)).trans c20, (hW.cells _ _ (cell_lt c21)).trans c21, (hW.cells _ _ (cell_lt c22)).trans c22, (hW.cells _ _ (cell_lt c23)).trans c23, (hW.cells _ _ (cell_lt c24)).trans c24⟩)
  have Z0 : W0.heap.size = w.heap.size + 1 + 1 + 1 := by rw [hW0]; simp
  have ZZ := Lib.hid Z0
  have HW := Lib.hid hW0
  have K0 := Lib.hid k0
  clear hW0 k0 Z0
  have kk := Kept.refl W0
  have b0 := cell_lt c00
  have b1 := cell_lt c10
  have b2 := cell_lt c20
  obtain ⟨na, hna⟩ : ∃ na, na = narB m d m2 d2 := ⟨_, rfl⟩
  obtain ⟨nb, hnb⟩ : ∃ nb, nb = inB n 0 100000 := ⟨_, rfl⟩
  have HN : RowKit.Hid (∀ W, Calls Try.prog 55 #[.agg #[.int .i64 m, .int .i64 d], .agg #[.int .i64 m2, .int .i64 d2]] W fun e w' => e = .returned (.bool na) ∧ Kept W w') := Lib.hid (fun W => by rw [hna]; exact narrower_any m d m2 d2 W)
  have HL : RowKit.Hid (∀ W, Calls Try.prog 57 #[.int .i64 n] W fun e w' => e = .returned (.bool nb) ∧ Kept W w') := Lib.hid (fun W => (lnumber_any n W).mono fun _ _ ⟨he, hw⟩ => ⟨by rw [he, hnb], by rw [hw]; exact Kept.refl _⟩)
  have HNA := Lib.hid hna
  have HNB := Lib.hid hnb
  clear hna hnb
  cases na
  · go_enter Try.func11, Try.ntmps11
    go_upto_region 1 with (fail)
    rw [← HW.out]
    go_wp2_with (first
        | (go_at_call 55; refine (HN.out _).mono ?_; rintro e w1 ⟨rfl, hk⟩; replace kk := (by first | with_reducible exact kk.trans hk | with_reducible exact (kk.alloc _).trans hk | with_reducible exact kk.drew.trans hk | with_reducible exact (kk.drew.alloc _).trans hk | with_reducible exact (kk.alloc _).drew.trans hk | with_reducible exact ((kk.alloc _).alloc _).trans hk | with_reducible exact ((kk.drew.alloc _).alloc _).trans hk | fail); obtain ⟨c00, c01, c10, c11, c20, c21, c22, c23, c24⟩ := BR.out _ kk; have b0 := cell_lt c00; have b1 := cell_lt c10; have b2 := cell_lt c20)
        | (go_at_call 57; refine (HL.out _).mono ?_; rintro e w1 ⟨rfl, hk⟩; replace kk := kk.trans hk; obtain ⟨c00, c01, c10, c11, c20, c21, c22, c23, c24⟩ := BR.out _ kk)
        | (go_at_call 30; refine (counted_any _).mono ?_; rintro e w1 ⟨rfl, hk⟩; replace kk := (by first | with_reducible exact kk.trans hk | with_reducible exact (kk.alloc _).trans hk | with_reducible exact kk.drew.trans hk | with_reducible exact (kk.drew.alloc _).trans hk | with_reducible exact (kk.alloc _).drew.trans hk | with_reducible exact ((kk.alloc _).alloc _).trans hk | with_reducible exact ((kk.drew.alloc _).alloc _).trans hk | fail); obtain ⟨c00, c01, c10, c11, c20, c21, c22, c23, c24⟩ := BR.out _ kk; have b0 := cell_lt c00; have b1 := cell_lt c10; have b2 := cell_lt c20)
        | fail)
    go_ret
    exact ⟨rfl, K0.out.trans (by first | with_reducible exact kk | with_reducible exact kk.alloc _ | with_reducible exact kk.drew | with_reducible exact kk.drew.alloc _ | with_reducible exact (kk.alloc _).alloc _ | fail)⟩
  cases nb
  · go_enter Try.func11, Try.ntmps11
    go_upto_region 1 with (fail)
    rw [← HW.out]
    go_wp2_with (first
        | (go_at_call 55; refine (HN.out _).mono ?_; rintro e w1 ⟨rfl, hk⟩; replace kk := (by first | with_reducible exact kk.trans hk | with_reducible exact (kk.alloc _).trans hk | with_reducible exact kk.drew.trans hk | with_reducible exact (kk.drew.alloc _).trans hk | with_reducible exact (kk.alloc _).drew.trans hk | with_reducible exact ((kk.alloc _).alloc _).trans hk | with_reducible exact ((kk.drew.alloc _).alloc _).trans hk | fail); obtain ⟨c00, c01, c10, c11, c20, c21, c22, c23, c24⟩ := BR.out _ kk; have b0 := cell_lt c00; have b1 := cell_lt c10; have b2 := cell_lt c20)
        | (go_at_call 57; refine (HL.out _).mono ?_; rintro e w1 ⟨rfl, hk⟩; replace kk := kk.trans hk; obtain ⟨c00, c01, c10, c11, c20, c21, c22, c23, c24⟩ := BR.out _ kk)
        | (go_at_call 30; refine (counted_any _).mono ?_; rintro e w1 ⟨rfl, hk⟩; replace kk := (by first | with_reducible exact kk.trans hk | with_reducible exact (kk.alloc _).trans hk | with_reducible exact kk.drew.trans hk | with_reducible exact (kk.drew.alloc _).trans hk | with_reducible exact (kk.alloc _).drew.trans hk | with_reducible exact ((kk.alloc _).alloc _).trans hk | with_reducible exact ((kk.drew.alloc _).alloc _).trans hk | fail); obtain ⟨c00, c01, c10, c11, c20, c21, c22, c23, c24⟩ := BR.out _ kk; have b0 := cell_lt c00; have b1 := cell_lt c10; have b2 := cell_lt c20)
        | fail)
    go_ret
    exact ⟨rfl, K0.out.trans (by first | with_reducible exact kk | with_reducible exact kk.alloc _ | with_reducible exact kk.drew | with_reducible exact kk.drew.alloc _ | with_reducible exact (kk.alloc _).alloc _ | fail)⟩
  by_cases h1 : more < 0
  · go_enter Try.func11, Try.ntmps11
    go_upto_region 1 with (fail)
    rw [← HW.out]
    go_wp2_with (first
        | (go_at_call 55; refine (HN.out _).mono ?_; rintro e w1 ⟨rfl, hk⟩; replace kk := (by first | with_reducible exact kk.trans hk | with_reducible exact (kk.alloc _).trans hk | with_reducible exact kk.drew.trans hk | with_reducible exact (kk.drew.alloc _).trans hk | with_reducible exact (kk.alloc _).drew.trans hk | with_reducible exact ((kk.alloc _).alloc _).trans hk | with_reducible exact ((kk.drew.alloc _).alloc _).trans hk | fail); obtain ⟨c00, c01, c10, c11, c20, c21, c22, c23, c24⟩ := BR.out _ kk; have b0 := cell_lt c00; have b1 := cell_lt c10; have b2 := cell_lt c20)
        | (go_at_call 57; refine (HL.out _).mono ?_; rintro e w1 ⟨rfl, hk⟩; replace kk := kk.trans hk; obtain ⟨c00, c01, c10, c11, c20, c21, c22, c23, c24⟩ := BR.out _ kk)
        | (go_at_call 30; refine (counted_any _).mono ?_; rintro e w1 ⟨rfl, hk⟩; replace kk := (by first | with_reducible exact kk.trans hk | with_reducible exact (kk.alloc _).trans hk | with_reducible exact kk.drew.trans hk | with_reducible exact (kk.drew.alloc _).trans hk | with_reducible exact (kk.alloc _).drew.trans hk | with_reducible exact ((kk.alloc _).alloc _).trans hk | with_reducible exact ((kk.drew.alloc _).alloc _).trans hk | fail); obtain ⟨c00, c01, c10, c11, c20, c21, c22, c23, c24⟩ := BR.out _ kk; have b0 := cell_lt c00; have b1 := cell_lt c10; have b2 := cell_lt c20)
        | fail)
    go_ret
    exact ⟨rfl, K0.out.trans (by first | with_reducible exact kk | with_reducible exact kk.alloc _ | with_reducible exact kk.drew | with_reducible exact kk.drew.alloc _ | with_reducible exact (kk.alloc _).alloc _ | fail)⟩
  by_cases h2 : 10000 < more
  · go_enter Try.func11, Try.ntmps11
    go_upto_region 1 with (fail)
    rw [← HW.out]
    go_wp2_with (first
        | (go_at_call 55; refine (HN.out _).mono ?_; rintro e w1 ⟨rfl, hk⟩; replace kk := (by first | with_reducible exact kk.trans hk | with_reducible exact (kk.alloc _).trans hk | with_reducible exact kk.drew.trans hk | with_reducible exact (kk.drew.alloc _).trans hk | with_reducible exact (kk.alloc _).drew.trans hk | with_reducible exact ((kk.alloc _).alloc _).trans hk | with_reducible exact ((kk.drew.alloc _).alloc _).trans hk | fail); obtain ⟨c00, c01, c10, c11, c20, c21, c22, c23, c24⟩ := BR.out _ kk; have b0 := cell_lt c00; have b1 := cell_lt c10; have b2 := cell_lt c20)
        | (go_at_call 57; refine (HL.out _).mono ?_; rintro e w1 ⟨rfl, hk⟩; replace kk := kk.trans hk; obtain ⟨c00, c01, c10, c11, c20, c21, c22, c23, c24⟩ := BR.out _ kk)
        | (go_at_call 30; refine (counted_any _).mono ?_; rintro e w1 ⟨rfl, hk⟩; replace kk := (by first | with_reducible exact kk.trans hk | with_reducible exact (kk.alloc _).trans hk | with_reducible exact kk.drew.trans hk | with_reducible exact (kk.drew.alloc _).trans hk | with_reducible exact (kk.alloc _).drew.trans hk | with_reducible exact ((kk.alloc _).alloc _).trans hk | with_reducible exact ((kk.drew.alloc _).alloc _).trans hk | fail); obtain ⟨c00, c01, c10, c11, c20, c21, c22, c23, c24⟩ := BR.out _ kk; have b0 := cell_lt c00; have b1 := cell_lt c10; have b2 := cell_lt c20)
        | fail)
    go_ret
    exact ⟨rfl, K0.out.trans (by first | with_reducible exact kk | with_reducible exact kk.alloc _ | with_reducible exact kk.drew | with_reducible exact kk.drew.alloc _ | with_reducible exact (kk.alloc _).alloc _ | fail)⟩
  obtain ⟨sm, hsm⟩ : ∃ sm, IntKind.i64.wrap (x + more) = sm := ⟨_, rfl⟩
  have HSM := Lib.hid hsm
  rcases Int.lt_or_le sm 10000 with h3 | h3
  · have HUW : RowKit.Hid (sm = min 10000 sm) := Lib.hid (by omega)
    obtain ⟨x1, x2, x3, hx⟩ : ∃ x1 x2 x3, ocI m d i dy s nu x = (x1, x2, x3) := ⟨_, _, _, rfl⟩
    obtain ⟨y1, y2, y3, hy⟩ : ∃ y1 y2 y3, ocI m2 d2 i dy s nu x = (y1, y2, y3) := ⟨_, _, _, rfl⟩
    obtain ⟨z1, z2, z3, hz⟩ : ∃ z1 z2 z3, ocI m d i dy s nu sm = (z1, z2, z3) := ⟨_, _, _, rfl⟩
    obtain ⟨ok, hok⟩ : ∃ ok, ok = ocOk m d i dy s nu x := ⟨_, rfl⟩
    obtain ⟨oz, hoz⟩ : ∃ oz, oz = ocOk m d i dy s nu sm := ⟨_, rfl⟩
    have H1 : RowKit.Hid (∀ W, Calls Try.prog 26 #[.agg #[.int .i64 m, .int .i64 d], .agg #[.int .i64 i, .int .i64 dy, .int .i64 s, .int .i64 nu, .int .i64 x]] W fun e w' => e = .returned (.tuple #[.agg #[.int .i64 x1, .int .i64 x2, .bool x3], .int .i64 (errI ok)]) ∧ Kept W w') := Lib.hid (fun W => by have := ofCount_any m d i dy s nu x W; rw [hx] at this; rw [hok]; exact this)
    have H2 : RowKit.Hid (∀ W, Calls Try.prog 26 #[.agg #[.int .i64 m2, .int .i64 d2], .agg #[.int .i64 i, .int .i64 dy, .int .i64 s, .int .i64 nu, .int .i64 x]] W fun e w' => e = .returned (.tuple #[.agg #[.int .i64 y1, .int .i64 y2, .bool y3], .int .i64 (errI ok)]) ∧ Kept W w') := Lib.hid (fun W => by have := ofCount_any m2 d2 i dy s nu x W; rw [hy, nar_ok HNA.out.symm] at this; rw [hok]; exact this)
    have H3 : RowKit.Hid (∀ W, Calls Try.prog 26 #[.agg #[.int .i64 m, .int .i64 d], .agg #[.int .i64 i, .int .i64 dy, .int .i64 s, .int .i64 nu, .int .i64 sm]] W fun e w' => e = .returned (.tuple #[.agg #[.int .i64 z1, .int .i64 z2, .bool z3], .int .i64 (errI oz)]) ∧ Kept W w') := Lib.hid (fun W => by have := ofCount_any m d i dy s nu sm W; rw [hz] at this; rw [hoz]; exact this)
    have HIN : RowKit.Hid (ok = true → oz = true → inI x1 x2 x3 n = true → inI y1 y2 y3 n = true ∧ inI z1 z2 z3 n = true) := Lib.hid (fun h1 h2 h3 => by
      have hb := (countB_bd (i := i) (dy := dy) (s := s) (n := nu) (x := x) (by rw [hok] at h1; unfold ocOk at h1; rw [Bool.and_eq_true] at h1; exact h1.2)).2
      have hw : IntKind.i64.wrap (x + more) = x + more := IntWalk.i64_in _ (by omega)
      have hle : x ≤ sm := by have e1 := HUW.out; have e2 := HSM.out; rw [hw] at e2; omega
      have := oc_narrow HNA.out.symm HNB.out.symm (by rw [← hok]; exact h1) (by rw [← hoz]; exact h2) hle (n := n) (by rw [hx]; exact h3)
      rw [hy, hz] at this
      exact this)
    obtain ⟨ix, hix⟩ : ∃ ix, ix = inI x1 x2 x3 n := ⟨_, rfl⟩
    obtain ⟨iy, hiy⟩ : ∃ iy, iy = inI y1 y2 y3 n := ⟨_, rfl⟩
    obtain ⟨iz, hiz⟩ : ∃ iz, iz = inI z1 z2 z3 n := ⟨_, rfl⟩
    have HX : RowKit.Hid (∀ W, Calls Try.prog 58 #[.agg #[.int .i64 x1, .int .i64 x2, .bool x3], .int .i64 n] W fun e w' => e = .returned (.bool ix) ∧ Kept W w') := Lib.hid (fun W => by rw [hix]; exact in_any x1 x2 n x3 W)
    have HY : RowKit.Hid (∀ W, Calls Try.prog 58 #[.agg #[.int .i64 y1, .int .i64 y2, .bool y3], .int .i64 n] W fun e w' => e = .returned (.bool iy) ∧ Kept W w') := Lib.hid (fun W => by rw [hiy]; exact in_any y1 y2 n y3 W)
    have HZ : RowKit.Hid (∀ W, Calls Try.prog 58 #[.agg #[.int .i64 z1, .int .i64 z2, .bool z3], .int .i64 n] W fun e w' => e = .returned (.bool iz) ∧ Kept W w') := Lib.hid (fun W => by rw [hiz]; exact in_any z1 z2 n z3 W)
    rw [← hix, ← hiy, ← hiz] at HIN
    clear hx hy hz hok hoz hix hiy hiz
    cases ok
    · rw [errI_false] at H1 H2
      go_enter Try.func11, Try.ntmps11
      go_upto_region 1 with (fail)
      rw [← HW.out]
      go_upto_region 3 with (first
        | (go_at_call 55; refine (HN.out _).mono ?_; rintro e w1 ⟨rfl, hk⟩; replace kk := (by first | with_reducible exact kk.trans hk | with_reducible exact (kk.alloc _).trans hk | with_reducible exact kk.drew.trans hk | with_reducible exact (kk.drew.alloc _).trans hk | with_reducible exact (kk.alloc _).drew.trans hk | with_reducible exact ((kk.alloc _).alloc _).trans hk | with_reducible exact ((kk.drew.alloc _).alloc _).trans hk | fail); obtain ⟨c00, c01, c10, c11, c20, c21, c22, c23, c24⟩ := BR.out _ kk; have b0 := cell_lt c00; have b1 := cell_lt c10; have b2 := cell_lt c20)
        | (go_at_call 57; refine (HL.out _).mono ?_; rintro e w1 ⟨rfl, hk⟩; replace kk := kk.trans hk; obtain ⟨c00, c01, c10, c11, c20, c21, c22, c23, c24⟩ := BR.out _ kk)
        | (go_at_call 30; refine (counted_any _).mono ?_; rintro e w1 ⟨rfl, hk⟩; replace kk := (by first | with_reducible exact kk.trans hk | with_reducible exact (kk.alloc _).trans hk | with_reducible exact kk.drew.trans hk | with_reducible exact (kk.drew.alloc _).trans hk | with_reducible exact (kk.alloc _).drew.trans hk | with_reducible exact ((kk.alloc _).alloc _).trans hk | with_reducible exact ((kk.drew.alloc _).alloc _).trans hk | fail); obtain ⟨c00, c01, c10, c11, c20, c21, c22, c23, c24⟩ := BR.out _ kk; have b0 := cell_lt c00; have b1 := cell_lt c10; have b2 := cell_lt c20)
        | fail)
      rename World => wk
      have kwwk := Lib.hid (K0.out.trans kk)
      have r5wk : RowKit.Hid (RowC wk w.heap.size [.int .i64 m, .int .i64 d]) := Lib.hid ((show RowC W0 _ _ by rw [HW.out]; exact (RowC.new _ _ 23).kept (((Kept.refl _).alloc _).alloc _)).kept kk)
      have r6wk : RowKit.Hid (RowC wk (w.heap.size + 1) [.int .i64 m2, .int .i64 d2]) := Lib.hid ((show RowC W0 _ _ by rw [HW.out]; exact (RowC.atn (vs := [.int .i64 m2, .int .i64 d2]) (by simp)).kept ((Kept.refl _).alloc _)).kept kk)
      have r7wk : RowKit.Hid (RowC wk (w.heap.size + 1 + 1) [.int .i64 i, .int .i64 dy, .int .i64 s, .int .i64 nu, .int .i64 x]) := Lib.hid ((show RowC W0 _ _ by rw [HW.out]; exact RowC.atn (vs := [.int .i64 i, .int .i64 dy, .int .i64 s, .int .i64 nu, .int .i64 x]) (by simp)).kept kk)
      clear kk c00 c01 c10 c11 c20 c21 c22 c23 c24 b0 b1 b2
      have cr50 := (r5wk.out 0 _ rfl).1
      have cr51 := (r5wk.out 1 _ rfl).1
      have lr5 := cell_lt cr50
      have cr60 := (r6wk.out 0 _ rfl).1
      have cr61 := (r6wk.out 1 _ rfl).1
      have lr6 := cell_lt cr60
      have cr70 := (r7wk.out 0 _ rfl).1
      have cr71 := (r7wk.out 1 _ rfl).1
      have cr72 := (r7wk.out 2 _ rfl).1
      have cr73 := (r7wk.out 3 _ rfl).1
      have cr74 := (r7wk.out 4 _ rfl).1
      have lr7 := cell_lt cr70
      go_wp2_with fail
      obtain ⟨V101, hV101⟩ : ∃ V101, V101 = wk.alloc (.cells #[.int .i64 i, .int .i64 dy, .int .i64 s, .int .i64 nu, .int .i64 sm] 25) := ⟨_, rfl⟩
      rw [← hV101]
      have kV101 : Kept wk V101 := by rw [hV101]; exact (Kept.refl _).alloc _
      have r5V101 := Lib.hid (r5wk.out.kept kV101)
      clear r5wk
      have r6V101 := Lib.hid (r6wk.out.kept kV101)
      clear r6wk
      have r7V101 := Lib.hid (r7wk.out.kept kV101)
      clear r7wk
      have r11V101 : RowKit.Hid (RowC V101 (wk.heap.size) [.int .i64 i, .int .i64 dy, .int .i64 s, .int .i64 nu, .int .i64 sm]) := Lib.hid (by rw [hV101]; exact (RowC.new _ _ 25))
      have kwV101 := Lib.hid (kwwk.out.trans kV101)
      clear hV101 kV101
      clear cr50 cr51 lr5 cr60 cr61 lr6 cr70 cr71 cr72 cr73 cr74 lr7
      have cr50 := (r5V101.out 0 _ rfl).1
      have cr51 := (r5V101.out 1 _ rfl).1
      have lr5 := cell_lt cr50
      have cr60 := (r6V101.out 0 _ rfl).1
      have cr61 := (r6V101.out 1 _ rfl).1
      have lr6 := cell_lt cr60
      have cr70 := (r7V101.out 0 _ rfl).1
      have cr71 := (r7V101.out 1 _ rfl).1
      have cr72 := (r7V101.out 2 _ rfl).1
      have cr73 := (r7V101.out 3 _ rfl).1
      have cr74 := (r7V101.out 4 _ rfl).1
      have lr7 := cell_lt cr70
      have cr110 := (r11V101.out 0 _ rfl).1
      have cr111 := (r11V101.out 1 _ rfl).1
      have cr112 := (r11V101.out 2 _ rfl).1
      have cr113 := (r11V101.out 3 _ rfl).1
      have cr114 := (r11V101.out 4 _ rfl).1
      have lr11 := cell_lt cr110
      refine (H1.out _).mono ?_
      rintro e u101 ⟨rfl, hk101⟩
      have r5u101 := Lib.hid (r5V101.out.kept hk101)
      clear r5V101
      have r6u101 := Lib.hid (r6V101.out.kept hk101)
      clear r6V101
      have r7u101 := Lib.hid (r7V101.out.kept hk101)
      clear r7V101
      have r11u101 := Lib.hid (r11V101.out.kept hk101)
      clear r11V101
      have kwu101 := Lib.hid (kwV101.out.trans hk101)
      clear hk101
      clear cr50 cr51 lr5 cr60 cr61 lr6 cr70 cr71 cr72 cr73 cr74 lr7 cr110 cr111 cr112 cr113 cr114 lr11
      have cr50 := (r5u101.out 0 _ rfl).1
      have cr51 := (r5u101.out 1 _ rfl).1
      have lr5 := cell_lt cr50
      have cr60 := (r6u101.out 0 _ rfl).1
      have cr61 := (r6u101.out 1 _ rfl).1
      have lr6 := cell_lt cr60
      have cr70 := (r7u101.out 0 _ rfl).1
      have cr71 := (r7u101.out 1 _ rfl).1
      have cr72 := (r7u101.out 2 _ rfl).1
      have cr73 := (r7u101.out 3 _ rfl).1
      have cr74 := (r7u101.out 4 _ rfl).1
      have lr7 := cell_lt cr70
      have cr110 := (r11u101.out 0 _ rfl).1
      have cr111 := (r11u101.out 1 _ rfl).1
      have cr112 := (r11u101.out 2 _ rfl).1
      have cr113 := (r11u101.out 3 _ rfl).1
      have cr114 := (r11u101.out 4 _ rfl).1
      have lr11 := cell_lt cr110
      go_wp2_with fail
      obtain ⟨V102, hV102⟩ : ∃ V102, V102 = u101.alloc (.cells #[.int .i64 x1, .int .i64 x2, .bool x3] 34) := ⟨_, rfl⟩
      rw [← hV102]
      have kV102 : Kept u101 V102 := by rw [hV102]; exact (Kept.refl _).alloc _
      have r5V102 := Lib.hid (r5u101.out.kept kV102)
      clear r5u101
      have r6V102 := Lib.hid (r6u101.out.kept kV102)
      clear r6u101
      have r7V102 := Lib.hid (r7u101.out.kept kV102)
      clear r7u101
      have r11V102 := Lib.hid (r11u101.out.kept kV102)
      clear r11u101
      have r12V102 : RowKit.Hid (RowC V102 (u101.heap.size) [.int .i64 x1, .int .i64 x2, .bool x3]) := Lib.hid (by rw [hV102]; exact (RowC.new _ _ 34))
      have kwV102 := Lib.hid (kwu101.out.trans kV102)
      clear hV102 kV102
      clear cr50 cr51 lr5 cr60 cr61 lr6 cr70 cr71 cr72 cr73 cr74 lr7 cr110 cr111 cr112 cr113 cr114 lr11
      have cr50 := (r5V102.out 0 _ rfl).1
      have cr51 := (r5V102.out 1 _ rfl).1
      have lr5 := cell_lt cr50
      have cr60 := (r6V102.out 0 _ rfl).1
      have cr61 := (r6V102.out 1 _ rfl).1
      have lr6 := cell_lt cr60
      have cr70 := (r7V102.out 0 _ rfl).1
      have cr71 := (r7V102.out 1 _ rfl).1
      have cr72 := (r7V102.out 2 _ rfl).1
      have cr73 := (r7V102.out 3 _ rfl).1
      have cr74 := (r7V102.out 4 _ rfl).1
      have lr7 := cell_lt cr70
      have cr110 := (r11V102.out 0 _ rfl).1
      have cr111 := (r11V102.out 1 _ rfl).1
      have cr112 := (r11V102.out 2 _ rfl).1
      have cr113 := (r11V102.out 3 _ rfl).1
      have cr114 := (r11V102.out 4 _ rfl).1
      have lr11 := cell_lt cr110
      have cr120 := (r12V102.out 0 _ rfl).1
      have cr121 := (r12V102.out 1 _ rfl).1
      have cr122 := (r12V102.out 2 _ rfl).1
      have lr12 := cell_lt cr120
      refine (H2.out _).mono ?_
      rintro e u102 ⟨rfl, hk102⟩
      have r5u102 := Lib.hid (r5V102.out.kept hk102)
      clear r5V102
      have r6u102 := Lib.hid (r6V102.out.kept hk102)
      clear r6V102
      have r7u102 := Lib.hid (r7V102.out.kept hk102)
      clear r7V102
      have r11u102 := Lib.hid (r11V102.out.kept hk102)
      clear r11V102
      have r12u102 := Lib.hid (r12V102.out.kept hk102)
      clear r12V102
      have kwu102 := Lib.hid (kwV102.out.trans hk102)
      clear hk102
      clear cr50 cr51 lr5 cr60 cr61 lr6 cr70 cr71 cr72 cr73 cr74 lr7 cr110 cr111 cr112 cr113 cr114 lr11 cr120 cr121 cr122 lr12
      have cr50 := (r5u102.out 0 _ rfl).1
      have cr51 := (r5u102.out 1 _ rfl).1
      have lr5 := cell_lt cr50
      have cr60 := (r6u102.out 0 _ rfl).1
      have cr61 := (r6u102.out 1 _ rfl).1
      have lr6 := cell_lt cr60
      have cr70 := (r7u102.out 0 _ rfl).1
      have cr71 := (r7u102.out 1 _ rfl).1
      have cr72 := (r7u102.out 2 _ rfl).1
      have cr73 := (r7u102.out 3 _ rfl).1
      have cr74 := (r7u102.out 4 _ rfl).1
      have lr7 := cell_lt cr70
      have cr110 := (r11u102.out 0 _ rfl).1
      have cr111 := (r11u102.out 1 _ rfl).1
      have cr112 := (r11u102.out 2 _ rfl).1
      have cr113 := (r11u102.out 3 _ rfl).1
      have cr114 := (r11u102.out 4 _ rfl).1
      have lr11 := cell_lt cr110
      have cr120 := (r12u102.out 0 _ rfl).1
      have cr121 := (r12u102.out 1 _ rfl).1
      have cr122 := (r12u102.out 2 _ rfl).1
      have lr12 := cell_lt cr120
      go_wp2_with fail
      obtain ⟨V103, hV103⟩ : ∃ V103, V103 = u102.alloc (.cells #[.int .i64 y1, .int .i64 y2, .bool y3] 34) := ⟨_, rfl⟩
      rw [← hV103]
      have kV103 : Kept u102 V103 := by rw [hV103]; exact (Kept.refl _).alloc _
      have r5V103 := Lib.hid (r5u102.out.kept kV103)
      clear r5u102
      have r6V103 := Lib.hid (r6u102.out.kept kV103)
      clear r6u102
      have r7V103 := Lib.hid (r7u102.out.kept kV103)
      clear r7u102
      have r11V103 := Lib.hid (r11u102.out.kept kV103)
      clear r11u102
      have r12V103 := Lib.hid (r12u102.out.kept kV103)
      clear r12u102
      have r14V103 : RowKit.Hid (RowC V103 (u102.heap.size) [.int .i64 y1, .int .i64 y2, .bool y3]) := Lib.hid (by rw [hV103]; exact (RowC.new _ _ 34))
      have kwV103 := Lib.hid (kwu102.out.trans kV103)
      clear hV103 kV103
      clear cr50 cr51 lr5 cr60 cr61 lr6 cr70 cr71 cr72 cr73 cr74 lr7 cr110 cr111 cr112 cr113 cr114 lr11 cr120 cr121 cr122 lr12
      have cr50 := (r5V103.out 0 _ rfl).1
      have cr51 := (r5V103.out 1 _ rfl).1
      have lr5 := cell_lt cr50
      have cr60 := (r6V103.out 0 _ rfl).1
      have cr61 := (r6V103.out 1 _ rfl).1
      have lr6 := cell_lt cr60
      have cr70 := (r7V103.out 0 _ rfl).1
      have cr71 := (r7V103.out 1 _ rfl).1
      have cr72 := (r7V103.out 2 _ rfl).1
      have cr73 := (r7V103.out 3 _ rfl).1
      have cr74 := (r7V103.out 4 _ rfl).1
      have lr7 := cell_lt cr70
      have cr110 := (r11V103.out 0 _ rfl).1
      have cr111 := (r11V103.out 1 _ rfl).1
      have cr112 := (r11V103.out 2 _ rfl).1
      have cr113 := (r11V103.out 3 _ rfl).1
      have cr114 := (r11V103.out 4 _ rfl).1
      have lr11 := cell_lt cr110
      have cr120 := (r12V103.out 0 _ rfl).1
      have cr121 := (r12V103.out 1 _ rfl).1
      have cr122 := (r12V103.out 2 _ rfl).1
      have lr12 := cell_lt cr120
      have cr140 := (r14V103.out 0 _ rfl).1
      have cr141 := (r14V103.out 1 _ rfl).1
      have cr142 := (r14V103.out 2 _ rfl).1
      have lr14 := cell_lt cr140
      refine (H3.out _).mono ?_
      rintro e u103 ⟨rfl, hk103⟩
      have r5u103 := Lib.hid (r5V103.out.kept hk103)
      clear r5V103
      have r6u103 := Lib.hid (r6V103.out.kept hk103)
      clear r6V103
      have r7u103 := Lib.hid (r7V103.out.kept hk103)
      clear r7V103
      have r11u103 := Lib.hid (r11V103.out.kept hk103)
      clear r11V103
      have r12u103 := Lib.hid (r12V103.out.kept hk103)
      clear r12V103
      have r14u103 := Lib.hid (r14V103.out.kept hk103)
      clear r14V103
      have kwu103 := Lib.hid (kwV103.out.trans hk103)
      clear hk103
      clear cr50 cr51 lr5 cr60 cr61 lr6 cr70 cr71 cr72 cr73 cr74 lr7 cr110 cr111 cr112 cr113 cr114 lr11 cr120 cr121 cr122 lr12 cr140 cr141 cr142 lr14
      have cr50 := (r5u103.out 0 _ rfl).1
      have cr51 := (r5u103.out 1 _ rfl).1
      have lr5 := cell_lt cr50
      have cr60 := (r6u103.out 0 _ rfl).1
      have cr61 := (r6u103.out 1 _ rfl).1
      have lr6 := cell_lt cr60
      have cr70 := (r7u103.out 0 _ rfl).1
      have cr71 := (r7u103.out 1 _ rfl).1
      have cr72 := (r7u103.out 2 _ rfl).1
      have cr73 := (r7u103.out 3 _ rfl).1
      have cr74 := (r7u103.out 4 _ rfl).1
      have lr7 := cell_lt cr70
      have cr110 := (r11u103.out 0 _ rfl).1
      have cr111 := (r11u103.out 1 _ rfl).1
      have cr112 := (r11u103.out 2 _ rfl).1
      have cr113 := (r11u103.out 3 _ rfl).1
      have cr114 := (r11u103.out 4 _ rfl).1
      have lr11 := cell_lt cr110
      have cr120 := (r12u103.out 0 _ rfl).1
      have cr121 := (r12u103.out 1 _ rfl).1
      have cr122 := (r12u103.out 2 _ rfl).1
      have lr12 := cell_lt cr120
      have cr140 := (r14u103.out 0 _ rfl).1
      have cr141 := (r14u103.out 1 _ rfl).1
      have cr142 := (r14u103.out 2 _ rfl).1
      have lr14 := cell_lt cr140
      go_wp2_with fail
      obtain ⟨V104, hV104⟩ : ∃ V104, V104 = u103.alloc (.cells #[.int .i64 z1, .int .i64 z2, .bool z3] 34) := ⟨_, rfl⟩
      rw [← hV104]
      have kV104 : Kept u103 V104 := by rw [hV104]; exact (Kept.refl _).alloc _
      have r5V104 := Lib.hid (r5u103.out.kept kV104)
      clear r5u103
      have r6V104 := Lib.hid (r6u103.out.kept kV104)
      clear r6u103
      have r7V104 := Lib.hid (r7u103.out.kept kV104)
      clear r7u103
      have r11V104 := Lib.hid (r11u103.out.kept kV104)
      clear r11u103
      have r12V104 := Lib.hid (r12u103.out.kept kV104)
      clear r12u103
      have r14V104 := Lib.hid (r14u103.out.kept kV104)
      clear r14u103
      have r16V104 : RowKit.Hid (RowC V104 (u103.heap.size) [.int .i64 z1, .int .i64 z2, .bool z3]) := Lib.hid (by rw [hV104]; exact (RowC.new _ _ 34))
      have kwV104 := Lib.hid (kwu103.out.trans kV104)
      clear hV104 kV104
      clear cr50 cr51 lr5 cr60 cr61 lr6 cr70 cr71 cr72 cr73 cr74 lr7 cr110 cr111 cr112 cr113 cr114 lr11 cr120 cr121 cr122 lr12 cr140 cr141 cr142 lr14
      have cr50 := (r5V104.out 0 _ rfl).1
      have cr51 := (r5V104.out 1 _ rfl).1
      have lr5 := cell_lt cr50
      have cr60 := (r6V104.out 0 _ rfl).1
      have cr61 := (r6V104.out 1 _ rfl).1
      have lr6 := cell_lt cr60
      have cr70 := (r7V104.out 0 _ rfl).1
      have cr71 := (r7V104.out 1 _ rfl).1
      have cr72 := (r7V104.out 2 _ rfl).1
      have cr73 := (r7V104.out 3 _ rfl).1
      have cr74 := (r7V104.out 4 _ rfl).1
      have lr7 := cell_lt cr70
      have cr110 := (r11V104.out 0 _ rfl).1
      have cr111 := (r11V104.out 1 _ rfl).1
      have cr112 := (r11V104.out 2 _ rfl).1
      have cr113 := (r11V104.out 3 _ rfl).1
      have cr114 := (r11V104.out 4 _ rfl).1
      have lr11 := cell_lt cr110
      have cr120 := (r12V104.out 0 _ rfl).1
      have cr121 := (r12V104.out 1 _ rfl).1
      have cr122 := (r12V104.out 2 _ rfl).1
      have lr12 := cell_lt cr120
      have cr140 := (r14V104.out 0 _ rfl).1
      have cr141 := (r14V104.out 1 _ rfl).1
      have cr142 := (r14V104.out 2 _ rfl).1
      have lr14 := cell_lt cr140
      have cr160 := (r16V104.out 0 _ rfl).1
      have cr161 := (r16V104.out 1 _ rfl).1
      have cr162 := (r16V104.out 2 _ rfl).1
      have lr16 := cell_lt cr160
      refine (counted_any _).mono ?_
      rintro e u104 ⟨rfl, hk104⟩
      have r5u104 := Lib.hid (r5V104.out.kept hk104)
      clear r5V104
      have r6u104 := Lib.hid (r6V104.out.kept hk104)
      clear r6V104
      have r7u104 := Lib.hid (r7V104.out.kept hk104)
      clear r7V104
      have r11u104 := Lib.hid (r11V104.out.kept hk104)
      clear r11V104
      have r12u104 := Lib.hid (r12V104.out.kept hk104)
      clear r12V104
      have r14u104 := Lib.hid (r14V104.out.kept hk104)
      clear r14V104
      have r16u104 := Lib.hid (r16V104.out.kept hk104)
      clear r16V104
      have kwu104 := Lib.hid (kwV104.out.trans hk104)
      clear hk104
      clear cr50 cr51 lr5 cr60 cr61 lr6 cr70 cr71 cr72 cr73 cr74 lr7 cr110 cr111 cr112 cr113 cr114 lr11 cr120 cr121 cr122 lr12 cr140 cr141 cr142 lr14 cr160 cr161 cr162 lr16
      have cr50 := (r5u104.out 0 _ rfl).1
      have cr51 := (r5u104.out 1 _ rfl).1
      have lr5 := cell_lt cr50
      have cr60 := (r6u104.out 0 _ rfl).1
      have cr61 := (r6u104.out 1 _ rfl).1
      have lr6 := cell_lt cr60
      have cr70 := (r7u104.out 0 _ rfl).1
      have cr71 := (r7u104.out 1 _ rfl).1
      have cr72 := (r7u104.out 2 _ rfl).1
      have cr73 := (r7u104.out 3 _ rfl).1
      have cr74 := (r7u104.out 4 _ rfl).1
      have lr7 := cell_lt cr70
      have cr110 := (r11u104.out 0 _ rfl).1
      have cr111 := (r11u104.out 1 _ rfl).1
      have cr112 := (r11u104.out 2 _ rfl).1
      have cr113 := (r11u104.out 3 _ rfl).1
      have cr114 := (r11u104.out 4 _ rfl).1
      have lr11 := cell_lt cr110
      have cr120 := (r12u104.out 0 _ rfl).1
      have cr121 := (r12u104.out 1 _ rfl).1
      have cr122 := (r12u104.out 2 _ rfl).1
      have lr12 := cell_lt cr120
      have cr140 := (r14u104.out 0 _ rfl).1
      have cr141 := (r14u104.out 1 _ rfl).1
      have cr142 := (r14u104.out 2 _ rfl).1
      have lr14 := cell_lt cr140
      have cr160 := (r16u104.out 0 _ rfl).1
      have cr161 := (r16u104.out 1 _ rfl).1
      have cr162 := (r16u104.out 2 _ rfl).1
      have lr16 := cell_lt cr160
      go_wp2
      go_ret
      exact ⟨rfl, kwu104.out⟩
    · rw [errI_true] at H1 H2
      cases oz
      · rw [errI_false] at H3
        go_enter Try.func11, Try.ntmps11
        go_upto_region 1 with (fail)
        rw [← HW.out]
        go_upto_region 3 with (first
        | (go_at_call 55; refine (HN.out _).mono ?_; rintro e w1 ⟨rfl, hk⟩; replace kk := (by first | with_reducible exact kk.trans hk | with_reducible exact (kk.alloc _).trans hk | with_reducible exact kk.drew.trans hk | with_reducible exact (kk.drew.alloc _).trans hk | with_reducible exact (kk.alloc _).drew.trans hk | with_reducible exact ((kk.alloc _).alloc _).trans hk | with_reducible exact ((kk.drew.alloc _).alloc _).trans hk | fail); obtain ⟨c00, c01, c10, c11, c20, c21, c22, c23, c24⟩ := BR.out _ kk; have b0 := cell_lt c00; have b1 := cell_lt c10; have b2 := cell_lt c20)
        | (go_at_call 57; refine (HL.out _).mono ?_; rintro e w1 ⟨rfl, hk⟩; replace kk := kk.trans hk; obtain ⟨c00, c01, c10, c11, c20, c21, c22, c23, c24⟩ := BR.out _ kk)
        | (go_at_call 30; refine (counted_any _).mono ?_; rintro e w1 ⟨rfl, hk⟩; replace kk := (by first | with_reducible exact kk.trans hk | with_reducible exact (kk.alloc _).trans hk | with_reducible exact kk.drew.trans hk | with_reducible exact (kk.drew.alloc _).trans hk | with_reducible exact (kk.alloc _).drew.trans hk | with_reducible exact ((kk.alloc _).alloc _).trans hk | with_reducible exact ((kk.drew.alloc _).alloc _).trans hk | fail); obtain ⟨c00, c01, c10, c11, c20, c21, c22, c23, c24⟩ := BR.out _ kk; have b0 := cell_lt c00; have b1 := cell_lt c10; have b2 := cell_lt c20)
        | fail)
        rename World => wk
        have kwwk := Lib.hid (K0.out.trans kk)
        have r5wk : RowKit.Hid (RowC wk w.heap.size [.int .i64 m, .int .i64 d]) := Lib.hid ((show RowC W0 _ _ by rw [HW.out]; exact (RowC.new _ _ 23).kept (((Kept.refl _).alloc _).alloc _)).kept kk)
        have r6wk : RowKit.Hid (RowC wk (w.heap.size + 1) [.int .i64 m2, .int .i64 d2]) := Lib.hid ((show RowC W0 _ _ by rw [HW.out]; exact (RowC.atn (vs := [.int .i64 m2, .int .i64 d2]) (by simp)).kept ((Kept.refl _).alloc _)).kept kk)
        have r7wk : RowKit.Hid (RowC wk (w.heap.size + 1 + 1) [.int .i64 i, .int .i64 dy, .int .i64 s, .int .i64 nu, .int .i64 x]) := Lib.hid ((show RowC W0 _ _ by rw [HW.out]; exact RowC.atn (vs := [.int .i64 i, .int .i64 dy, .int .i64 s, .int .i64 nu, .int .i64 x]) (by simp)).kept kk)
        clear kk c00 c01 c10 c11 c20 c21 c22 c23 c24 b0 b1 b2
        have cr50 := (r5wk.out 0 _ rfl).1
        have cr51 := (r5wk.out 1 _ rfl).1
        have lr5 := cell_lt cr50
        have cr60 := (r6wk.out 0 _ rfl).1
        have cr61 := (r6wk.out 1 _ rfl).1
        have lr6 := cell_lt cr60
        have cr70 := (r7wk.out 0 _ rfl).1
        have cr71 := (r7wk.out 1 _ rfl).1
        have cr72 := (r7wk.out 2 _ rfl).1
        have cr73 := (r7wk.out 3 _ rfl).1
        have cr74 := (r7wk.out 4 _ rfl).1
        have lr7 := cell_lt cr70
        go_wp2_with fail
        obtain ⟨V101, hV101⟩ : ∃ V101, V101 = wk.alloc (.cells #[.int .i64 i, .int .i64 dy, .int .i64 s, .int .i64 nu, .int .i64 sm] 25) := ⟨_, rfl⟩
        rw [← hV101]
        have kV101 : Kept wk V101 := by rw [hV101]; exact (Kept.refl _).alloc _
        have r5V101 := Lib.hid (r5wk.out.kept kV101)
        clear r5wk
        have r6V101 := Lib.hid (r6wk.out.kept kV101)
        clear r6wk
        have r7V101 := Lib.hid (r7wk.out.kept kV101)
        clear r7wk
        have r11V101 : RowKit.Hid (RowC V101 (wk.heap.size) [.int .i64 i, .int .i64 dy, .int .i64 s, .int .i64 nu, .int .i64 sm]) := Lib.hid (by rw [hV101]; exact (RowC.new _ _ 25))
        have kwV101 := Lib.hid (kwwk.out.trans kV101)
        clear hV101 kV101
        clear cr50 cr51 lr5 cr60 cr61 lr6 cr70 cr71 cr72 cr73 cr74 lr7
        have cr50 := (r5V101.out 0 _ rfl).1
        have cr51 := (r5V101.out 1 _ rfl).1
        have lr5 := cell_lt cr50
        have cr60 := (r6V101.out 0 _ rfl).1
        have cr61 := (r6V101.out 1 _ rfl).1
        have lr6 := cell_lt cr60
        have cr70 := (r7V101.out 0 _ rfl).1
        have cr71 := (r7V101.out 1 _ rfl).1
        have cr72 := (r7V101.out 2 _ rfl).1
        have cr73 := (r7V101.out 3 _ rfl).1
        have cr74 := (r7V101.out 4 _ rfl).1
        have lr7 := cell_lt cr70
        have cr110 := (r11V101.out 0 _ rfl).1
        have cr111 := (r11V101.out 1 _ rfl).1
        have cr112 := (r11V101.out 2 _ rfl).1
        have cr113 := (r11V101.out 3 _ rfl).1
        have cr114 := (r11V101.out 4 _ rfl).1
        have lr11 := cell_lt cr110
        refine (H1.out _).mono ?_
        rintro e u101 ⟨rfl, hk101⟩
        have r5u101 := Lib.hid (r5V101.out.kept hk101)
        clear r5V101
        have r6u101 := Lib.hid (r6V101.out.kept hk101)
        clear r6V101
        have r7u101 := Lib.hid (r7V101.out.kept hk101)
        clear r7V101
        have r11u101 := Lib.hid (r11V101.out.kept hk101)
        clear r11V101
        have kwu101 := Lib.hid (kwV101.out.trans hk101)
        clear hk101
        clear cr50 cr51 lr5 cr60 cr61 lr6 cr70 cr71 cr72 cr73 cr74 lr7 cr110 cr111 cr112 cr113 cr114 lr11
        have cr50 := (r5u101.out 0 _ rfl).1
        have cr51 := (r5u101.out 1 _ rfl).1
        have lr5 := cell_lt cr50
        have cr60 := (r6u101.out 0 _ rfl).1
        have cr61 := (r6u101.out 1 _ rfl).1
        have lr6 := cell_lt cr60
        have cr70 := (r7u101.out 0 _ rfl).1
        have cr71 := (r7u101.out 1 _ rfl).1
        have cr72 := (r7u101.out 2 _ rfl).1
        have cr73 := (r7u101.out 3 _ rfl).1
        have cr74 := (r7u101.out 4 _ rfl).1
        have lr7 := cell_lt cr70
        have cr110 := (r11u101.out 0 _ rfl).1
        have cr111 := (r11u101.out 1 _ rfl).1
        have cr112 := (r11u101.out 2 _ rfl).1
        have cr113 := (r11u101.out 3 _ rfl).1
        have cr114 := (r11u101.out 4 _ rfl).1
        have lr11 := cell_lt cr110
        go_wp2_with fail
        obtain ⟨V102, hV102⟩ : ∃ V102, V102 = u101.alloc (.cells #[.int .i64 x1, .int .i64 x2, .bool x3] 34) := ⟨_, rfl⟩
        rw [← hV102]
        have kV102 : Kept u101 V102 := by rw [hV102]; exact (Kept.refl _).alloc _
        have r5V102 := Lib.hid (r5u101.out.kept kV102)
        clear r5u101
        have r6V102 := Lib.hid (r6u101.out.kept kV102)
        clear r6u101
        have r7V102 := Lib.hid (r7u101.out.kept kV102)
        clear r7u101
        have r11V102 := Lib.hid (r11u101.out.kept kV102)
        clear r11u101
        have r12V102 : RowKit.Hid (RowC V102 (u101.heap.size) [.int .i64 x1, .int .i64 x2, .bool x3]) := Lib.hid (by rw [hV102]; exact (RowC.new _ _ 34))
        have kwV102 := Lib.hid (kwu101.out.trans kV102)
        clear hV102 kV102
        clear cr50 cr51 lr5 cr60 cr61 lr6 cr70 cr71 cr72 cr73 cr74 lr7 cr110 cr111 cr112 cr113 cr114 lr11
        have cr50 := (r5V102.out 0 _ rfl).1
        have cr51 := (r5V102.out 1 _ rfl).1
        have lr5 := cell_lt cr50
        have cr60 := (r6V102.out 0 _ rfl).1
        have cr61 := (r6V102.out 1 _ rfl).1
        have lr6 := cell_lt cr60
        have cr70 := (r7V102.out 0 _ rfl).1
        have cr71 := (r7V102.out 1 _ rfl).1
        have cr72 := (r7V102.out 2 _ rfl).1
        have cr73 := (r7V102.out 3 _ rfl).1
        have cr74 := (r7V102.out 4 _ rfl).1
        have lr7 := cell_lt cr70
        have cr110 := (r11V102.out 0 _ rfl).1
        have cr111 := (r11V102.out 1 _ rfl).1
        have cr112 := (r11V102.out 2 _ rfl).1
        have cr113 := (r11V102.out 3 _ rfl).1
        have cr114 := (r11V102.out 4 _ rfl).1
        have lr11 := cell_lt cr110
        have cr120 := (r12V102.out 0 _ rfl).1
        have cr121 := (r12V102.out 1 _ rfl).1
        have cr122 := (r12V102.out 2 _ rfl).1
        have lr12 := cell_lt cr120
        refine (H2.out _).mono ?_
        rintro e u102 ⟨rfl, hk102⟩
        have r5u102 := Lib.hid (r5V102.out.kept hk102)
        clear r5V102
        have r6u102 := Lib.hid (r6V102.out.kept hk102)
        clear r6V102
        have r7u102 := Lib.hid (r7V102.out.kept hk102)
        clear r7V102
        have r11u102 := Lib.hid (r11V102.out.kept hk102)
        clear r11V102
        have r12u102 := Lib.hid (r12V102.out.kept hk102)
        clear r12V102
        have kwu102 := Lib.hid (kwV102.out.trans hk102)
        clear hk102
        clear cr50 cr51 lr5 cr60 cr61 lr6 cr70 cr71 cr72 cr73 cr74 lr7 cr110 cr111 cr112 cr113 cr114 lr11 cr120 cr121 cr122 lr12
        have cr50 := (r5u102.out 0 _ rfl).1
        have cr51 := (r5u102.out 1 _ rfl).1
        have lr5 := cell_lt cr50
        have cr60 := (r6u102.out 0 _ rfl).1
        have cr61 := (r6u102.out 1 _ rfl).1
        have lr6 := cell_lt cr60
        have cr70 := (r7u102.out 0 _ rfl).1
        have cr71 := (r7u102.out 1 _ rfl).1
        have cr72 := (r7u102.out 2 _ rfl).1
        have cr73 := (r7u102.out 3 _ rfl).1
        have cr74 := (r7u102.out 4 _ rfl).1
        have lr7 := cell_lt cr70
        have cr110 := (r11u102.out 0 _ rfl).1
        have cr111 := (r11u102.out 1 _ rfl).1
        have cr112 := (r11u102.out 2 _ rfl).1
        have cr113 := (r11u102.out 3 _ rfl).1
        have cr114 := (r11u102.out 4 _ rfl).1
        have lr11 := cell_lt cr110
        have cr120 := (r12u102.out 0 _ rfl).1
        have cr121 := (r12u102.out 1 _ rfl).1
        have cr122 := (r12u102.out 2 _ rfl).1
        have lr12 := cell_lt cr120
        go_wp2_with fail
        obtain ⟨V103, hV103⟩ : ∃ V103, V103 = u102.alloc (.cells #[.int .i64 y1, .int .i64 y2, .bool y3] 34) := ⟨_, rfl⟩
        rw [← hV103]
        have kV103 : Kept u102 V103 := by rw [hV103]; exact (Kept.refl _).alloc _
        have r5V103 := Lib.hid (r5u102.out.kept kV103)
        clear r5u102
        have r6V103 := Lib.hid (r6u102.out.kept kV103)
        clear r6u102
        have r7V103 := Lib.hid (r7u102.out.kept kV103)
        clear r7u102
        have r11V103 := Lib.hid (r11u102.out.kept kV103)
        clear r11u102
        have r12V103 := Lib.hid (r12u102.out.kept kV103)
        clear r12u102
        have r14V103 : RowKit.Hid (RowC V103 (u102.heap.size) [.int .i64 y1, .int .i64 y2, .bool y3]) := Lib.hid (by rw [hV103]; exact (RowC.new _ _ 34))
        have kwV103 := Lib.hid (kwu102.out.trans kV103)
        clear hV103 kV103
        clear cr50 cr51 lr5 cr60 cr61 lr6 cr70 cr71 cr72 cr73 cr74 lr7 cr110 cr111 cr112 cr113 cr114 lr11 cr120 cr121 cr122 lr12
        have cr50 := (r5V103.out 0 _ rfl).1
        have cr51 := (r5V103.out 1 _ rfl).1
        have lr5 := cell_lt cr50
        have cr60 := (r6V103.out 0 _ rfl).1
        have cr61 := (r6V103.out 1 _ rfl).1
        have lr6 := cell_lt cr60
        have cr70 := (r7V103.out 0 _ rfl).1
        have cr71 := (r7V103.out 1 _ rfl).1
        have cr72 := (r7V103.out 2 _ rfl).1
        have cr73 := (r7V103.out 3 _ rfl).1
        have cr74 := (r7V103.out 4 _ rfl).1
        have lr7 := cell_lt cr70
        have cr110 := (r11V103.out 0 _ rfl).1
        have cr111 := (r11V103.out 1 _ rfl).1
        have cr112 := (r11V103.out 2 _ rfl).1
        have cr113 := (r11V103.out 3 _ rfl).1
        have cr114 := (r11V103.out 4 _ rfl).1
        have lr11 := cell_lt cr110
        have cr120 := (r12V103.out 0 _ rfl).1
        have cr121 := (r12V103.out 1 _ rfl).1
        have cr122 := (r12V103.out 2 _ rfl).1
        have lr12 := cell_lt cr120
        have cr140 := (r14V103.out 0 _ rfl).1
        have cr141 := (r14V103.out 1 _ rfl).1
        have cr142 := (r14V103.out 2 _ rfl).1
        have lr14 := cell_lt cr140
        refine (H3.out _).mono ?_
        rintro e u103 ⟨rfl, hk103⟩
        have r5u103 := Lib.hid (r5V103.out.kept hk103)
        clear r5V103
        have r6u103 := Lib.hid (r6V103.out.kept hk103)
        clear r6V103
        have r7u103 := Lib.hid (r7V103.out.kept hk103)
        clear r7V103
        have r11u103 := Lib.hid (r11V103.out.kept hk103)
        clear r11V103
        have r12u103 := Lib.hid (r12V103.out.kept hk103)
        clear r12V103
        have r14u103 := Lib.hid (r14V103.out.kept hk103)
        clear r14V103
        have kwu103 := Lib.hid (kwV103.out.trans hk103)
        clear hk103
        clear cr50 cr51 lr5 cr60 cr61 lr6 cr70 cr71 cr72 cr73 cr74 lr7 cr110 cr111 cr112 cr113 cr114 lr11 cr120 cr121 cr122 lr12 cr140 cr141 cr142 lr14
        have cr50 := (r5u103.out 0 _ rfl).1
        have cr51 := (r5u103.out 1 _ rfl).1
        have lr5 := cell_lt cr50
        have cr60 := (r6u103.out 0 _ rfl).1
        have cr61 := (r6u103.out 1 _ rfl).1
        have lr6 := cell_lt cr60
        have cr70 := (r7u103.out 0 _ rfl).1
        have cr71 := (r7u103.out 1 _ rfl).1
        have cr72 := (r7u103.out 2 _ rfl).1
        have cr73 := (r7u103.out 3 _ rfl).1
        have cr74 := (r7u103.out 4 _ rfl).1
        have lr7 := cell_lt cr70
        have cr110 := (r11u103.out 0 _ rfl).1
        have cr111 := (r11u103.out 1 _ rfl).1
        have cr112 := (r11u103.out 2 _ rfl).1
        have cr113 := (r11u103.out 3 _ rfl).1
        have cr114 := (r11u103.out 4 _ rfl).1
        have lr11 := cell_lt cr110
        have cr120 := (r12u103.out 0 _ rfl).1
        have cr121 := (r12u103.out 1 _ rfl).1
        have cr122 := (r12u103.out 2 _ rfl).1
        have lr12 := cell_lt cr120
        have cr140 := (r14u103.out 0 _ rfl).1
        have cr141 := (r14u103.out 1 _ rfl).1
        have cr142 := (r14u103.out 2 _ rfl).1
        have lr14 := cell_lt cr140
        go_wp2_with fail
        obtain ⟨V104, hV104⟩ : ∃ V104, V104 = u103.alloc (.cells #[.int .i64 z1, .int .i64 z2, .bool z3] 34) := ⟨_, rfl⟩
        rw [← hV104]
        have kV104 : Kept u103 V104 := by rw [hV104]; exact (Kept.refl _).alloc _
        have r5V104 := Lib.hid (r5u103.out.kept kV104)
        clear r5u103
        have r6V104 := Lib.hid (r6u103.out.kept kV104)
        clear r6u103
        have r7V104 := Lib.hid (r7u103.out.kept kV104)
        clear r7u103
        have r11V104 := Lib.hid (r11u103.out.kept kV104)
        clear r11u103
        have r12V104 := Lib.hid (r12u103.out.kept kV104)
        clear r12u103
        have r14V104 := Lib.hid (r14u103.out.kept kV104)
        clear r14u103
        have r16V104 : RowKit.Hid (RowC V104 (u103.heap.size) [.int .i64 z1, .int .i64 z2, .bool z3]) := Lib.hid (by rw [hV104]; exact (RowC.new _ _ 34))
        have kwV104 := Lib.hid (kwu103.out.trans kV104)
        clear hV104 kV104
        clear cr50 cr51 lr5 cr60 cr61 lr6 cr70 cr71 cr72 cr73 cr74 lr7 cr110 cr111 cr112 cr113 cr114 lr11 cr120 cr121 cr122 lr12 cr140 cr141 cr142 lr14
        have cr50 := (r5V104.out 0 _ rfl).1
        have cr51 := (r5V104.out 1 _ rfl).1
        have lr5 := cell_lt cr50
        have cr60 := (r6V104.out 0 _ rfl).1
        have cr61 := (r6V104.out 1 _ rfl).1
        have lr6 := cell_lt cr60
        have cr70 := (r7V104.out 0 _ rfl).1
        have cr71 := (r7V104.out 1 _ rfl).1
        have cr72 := (r7V104.out 2 _ rfl).1
        have cr73 := (r7V104.out 3 _ rfl).1
        have cr74 := (r7V104.out 4 _ rfl).1
        have lr7 := cell_lt cr70
        have cr110 := (r11V104.out 0 _ rfl).1
        have cr111 := (r11V104.out 1 _ rfl).1
        have cr112 := (r11V104.out 2 _ rfl).1
        have cr113 := (r11V104.out 3 _ rfl).1
        have cr114 := (r11V104.out 4 _ rfl).1
        have lr11 := cell_lt cr110
        have cr120 := (r12V104.out 0 _ rfl).1
        have cr121 := (r12V104.out 1 _ rfl).1
        have cr122 := (r12V104.out 2 _ rfl).1
        have lr12 := cell_lt cr120
        have cr140 := (r14V104.out 0 _ rfl).1
        have cr141 := (r14V104.out 1 _ rfl).1
        have cr142 := (r14V104.out 2 _ rfl).1
        have lr14 := cell_lt cr140
        have cr160 := (r16V104.out 0 _ rfl).1
        have cr161 := (r16V104.out 1 _ rfl).1
        have cr162 := (r16V104.out 2 _ rfl).1
        have lr16 := cell_lt cr160
        refine (counted_any _).mono ?_
        rintro e u104 ⟨rfl, hk104⟩
        have r5u104 := Lib.hid (r5V104.out.kept hk104)
        clear r5V104
        have r6u104 := Lib.hid (r6V104.out.kept hk104)
        clear r6V104
        have r7u104 := Lib.hid (r7V104.out.kept hk104)
        clear r7V104
        have r11u104 := Lib.hid (r11V104.out.kept hk104)
        clear r11V104
        have r12u104 := Lib.hid (r12V104.out.kept hk104)
        clear r12V104
        have r14u104 := Lib.hid (r14V104.out.kept hk104)
        clear r14V104
        have r16u104 := Lib.hid (r16V104.out.kept hk104)
        clear r16V104
        have kwu104 := Lib.hid (kwV104.out.trans hk104)
        clear hk104
        clear cr50 cr51 lr5 cr60 cr61 lr6 cr70 cr71 cr72 cr73 cr74 lr7 cr110 cr111 cr112 cr113 cr114 lr11 cr120 cr121 cr122 lr12 cr140 cr141 cr142 lr14 cr160 cr161 cr162 lr16
        have cr50 := (r5u104.out 0 _ rfl).1
        have cr51 := (r5u104.out 1 _ rfl).1
        have lr5 := cell_lt cr50
        have cr60 := (r6u104.out 0 _ rfl).1
        have cr61 := (r6u104.out 1 _ rfl).1
        have lr6 := cell_lt cr60
        have cr70 := (r7u104.out 0 _ rfl).1
        have cr71 := (r7u104.out 1 _ rfl).1
        have cr72 := (r7u104.out 2 _ rfl).1
        have cr73 := (r7u104.out 3 _ rfl).1
        have cr74 := (r7u104.out 4 _ rfl).1
        have lr7 := cell_lt cr70
        have cr110 := (r11u104.out 0 _ rfl).1
        have cr111 := (r11u104.out 1 _ rfl).1
        have cr112 := (r11u104.out 2 _ rfl).1
        have cr113 := (r11u104.out 3 _ rfl).1
        have cr114 := (r11u104.out 4 _ rfl).1
        have lr11 := cell_lt cr110
        have cr120 := (r12u104.out 0 _ rfl).1
        have cr121 := (r12u104.out 1 _ rfl).1
        have cr122 := (r12u104.out 2 _ rfl).1
        have lr12 := cell_lt cr120
        have cr140 := (r14u104.out 0 _ rfl).1
        have cr141 := (r14u104.out 1 _ rfl).1
        have cr142 := (r14u104.out 2 _ rfl).1
        have lr14 := cell_lt cr140
        have cr160 := (r16u104.out 0 _ rfl).1
        have cr161 := (r16u104.out 1 _ rfl).1
        have cr162 := (r16u104.out 2 _ rfl).1
        have lr16 := cell_lt cr160
        go_wp2
        go_ret
        exact ⟨rfl, kwu104.out⟩
      · rw [errI_true] at H3
        cases ix
        · clear HIN
          go_enter Try.func11, Try.ntmps11
          go_upto_region 1 with (fail)
          rw [← HW.out]
          go_upto_region 3 with (first
        | (go_at_call 55; refine (HN.out _).mono ?_; rintro e w1 ⟨rfl, hk⟩; replace kk := (by first | with_reducible exact kk.trans hk | with_reducible exact (kk.alloc _).trans hk | with_reducible exact kk.drew.trans hk | with_reducible exact (kk.drew.alloc _).trans hk | with_reducible exact (kk.alloc _).drew.trans hk | with_reducible exact ((kk.alloc _).alloc _).trans hk | with_reducible exact ((kk.drew.alloc _).alloc _).trans hk | fail); obtain ⟨c00, c01, c10, c11, c20, c21, c22, c23, c24⟩ := BR.out _ kk; have b0 := cell_lt c00; have b1 := cell_lt c10; have b2 := cell_lt c20)
        | (go_at_call 57; refine (HL.out _).mono ?_; rintro e w1 ⟨rfl, hk⟩; replace kk := kk.trans hk; obtain ⟨c00, c01, c10, c11, c20, c21, c22, c23, c24⟩ := BR.out _ kk)
        | (go_at_call 30; refine (counted_any _).mono ?_; rintro e w1 ⟨rfl, hk⟩; replace kk := (by first | with_reducible exact kk.trans hk | with_reducible exact (kk.alloc _).trans hk | with_reducible exact kk.drew.trans hk | with_reducible exact (kk.drew.alloc _).trans hk | with_reducible exact (kk.alloc _).drew.trans hk | with_reducible exact ((kk.alloc _).alloc _).trans hk | with_reducible exact ((kk.drew.alloc _).alloc _).trans hk | fail); obtain ⟨c00, c01, c10, c11, c20, c21, c22, c23, c24⟩ := BR.out _ kk; have b0 := cell_lt c00; have b1 := cell_lt c10; have b2 := cell_lt c20)
        | fail)
          rename World => wk
          have kwwk := Lib.hid (K0.out.trans kk)
          have r5wk : RowKit.Hid (RowC wk w.heap.size [.int .i64 m, .int .i64 d]) := Lib.hid ((show RowC W0 _ _ by rw [HW.out]; exact (RowC.new _ _ 23).kept (((Kept.refl _).alloc _).alloc _)).kept kk)
          have r6wk : RowKit.Hid (RowC wk (w.heap.size + 1) [.int .i64 m2, .int .i64 d2]) := Lib.hid ((show RowC W0 _ _ by rw [HW.out]; exact (RowC.atn (vs := [.int .i64 m2, .int .i64 d2]) (by simp)).kept ((Kept.refl _).alloc _)).kept kk)
          have r7wk : RowKit.Hid (RowC wk (w.heap.size + 1 + 1) [.int .i64 i, .int .i64 dy, .int .i64 s, .int .i64 nu, .int .i64 x]) := Lib.hid ((show RowC W0 _ _ by rw [HW.out]; exact RowC.atn (vs := [.int .i64 i, .int .i64 dy, .int .i64 s, .int .i64 nu, .int .i64 x]) (by simp)).kept kk)
          clear kk c00 c01 c10 c11 c20 c21 c22 c23 c24 b0 b1 b2
          have cr50 := (r5wk.out 0 _ rfl).1
          have cr51 := (r5wk.out 1 _ rfl).1
          have lr5 := cell_lt cr50
          have cr60 := (r6wk.out 0 _ rfl).1
          have cr61 := (r6wk.out 1 _ rfl).1
          have lr6 := cell_lt cr60
          have cr70 := (r7wk.out 0 _ rfl).1
          have cr71 := (r7wk.out 1 _ rfl).1
          have cr72 := (r7wk.out 2 _ rfl).1
          have cr73 := (r7wk.out 3 _ rfl).1
          have cr74 := (r7wk.out 4 _ rfl).1
          have lr7 := cell_lt cr70
          go_wp2_with fail
          obtain ⟨V101, hV101⟩ : ∃ V101, V101 = wk.alloc (.cells #[.int .i64 i, .int .i64 dy, .int .i64 s, .int .i64 nu, .int .i64 sm] 25) := ⟨_, rfl⟩
          rw [← hV101]
          have kV101 : Kept wk V101 := by rw [hV101]; exact (Kept.refl _).alloc _
          have r5V101 := Lib.hid (r5wk.out.kept kV101)
          clear r5wk
          have r6V101 := Lib.hid (r6wk.out.kept kV101)
          clear r6wk
          have r7V101 := Lib.hid (r7wk.out.kept kV101)
          clear r7wk
          have r11V101 : RowKit.Hid (RowC V101 (wk.heap.size) [.int .i64 i, .int .i64 dy, .int .i64 s, .int .i64 nu, .int .i64 sm]) := Lib.hid (by rw [hV101]; exact (RowC.new _ _ 25))
          have kwV101 := Lib.hid (kwwk.out.trans kV101)
          clear hV101 kV101
          clear cr50 cr51 lr5 cr60 cr61 lr6 cr70 cr71 cr72 cr73 cr74 lr7
          have cr50 := (r5V101.out 0 _ rfl).1
          have cr51 := (r5V101.out 1 _ rfl).1
          have lr5 := cell_lt cr50
          have cr60 := (r6V101.out 0 _ rfl).1
          have cr61 := (r6V101.out 1 _ rfl).1
          have lr6 := cell_lt cr60
          have cr70 := (r7V101.out 0 _ rfl).1
          have cr71 := (r7V101.out 1 _ rfl).1
          have cr72 := (r7V101.out 2 _ rfl).1
          have cr73 := (r7V101.out 3 _ rfl).1
          have cr74 := (r7V101.out 4 _ rfl).1
          have lr7 := cell_lt cr70
          have cr110 := (r11V101.out 0 _ rfl).1
          have cr111 := (r11V101.out 1 _ rfl).1
          have cr112 := (r11V101.out 2 _ rfl).1
          have cr113 := (r11V101.out 3 _ rfl).1
          have cr114 := (r11V101.out 4 _ rfl).1
          have lr11 := cell_lt cr110
          refine (H1.out _).mono ?_
          rintro e u101 ⟨rfl, hk101⟩
          have r5u101 := Lib.hid (r5V101.out.kept hk101)
          clear r5V101
          have r6u101 := Lib.hid (r6V101.out.kept hk101)
          clear r6V101
          have r7u101 := Lib.hid (r7V101.out.kept hk101)
          clear r7V101
          have r11u101 := Lib.hid (r11V101.out.kept hk101)
          clear r11V101
          have kwu101 := Lib.hid (kwV101.out.trans hk101)
          clear hk101
          clear cr50 cr51 lr5 cr60 cr61 lr6 cr70 cr71 cr72 cr73 cr74 lr7 cr110 cr111 cr112 cr113 cr114 lr11
          have cr50 := (r5u101.out 0 _ rfl).1
          have cr51 := (r5u101.out 1 _ rfl).1
          have lr5 := cell_lt cr50
          have cr60 := (r6u101.out 0 _ rfl).1
          have cr61 := (r6u101.out 1 _ rfl).1
          have lr6 := cell_lt cr60
          have cr70 := (r7u101.out 0 _ rfl).1
          have cr71 := (r7u101.out 1 _ rfl).1
          have cr72 := (r7u101.out 2 _ rfl).1
          have cr73 := (r7u101.out 3 _ rfl).1
          have cr74 := (r7u101.out 4 _ rfl).1
          have lr7 := cell_lt cr70
          have cr110 := (r11u101.out 0 _ rfl).1
          have cr111 := (r11u101.out 1 _ rfl).1
          have cr112 := (r11u101.out 2 _ rfl).1
          have cr113 := (r11u101.out 3 _ rfl).1
          have cr114 := (r11u101.out 4 _ rfl).1
          have lr11 := cell_lt cr110
          go_wp2_with fail
          obtain ⟨V102, hV102⟩ : ∃ V102, V102 = u101.alloc (.cells #[.int .i64 x1, .int .i64 x2, .bool x3] 34) := ⟨_, rfl⟩
          rw [← hV102]
          have kV102 : Kept u101 V102 := by rw [hV102]; exact (Kept.refl _).alloc _
          have r5V102 := Lib.hid (r5u101.out.kept kV102)
          clear r5u101
          have r6V102 := Lib.hid (r6u101.out.kept kV102)
          clear r6u101
          have r7V102 := Lib.hid (r7u101.out.kept kV102)
          clear r7u101
          have r11V102 := Lib.hid (r11u101.out.kept kV102)
          clear r11u101
          have r12V102 : RowKit.Hid (RowC V102 (u101.heap.size) [.int .i64 x1, .int .i64 x2, .bool x3]) := Lib.hid (by rw [hV102]; exact (RowC.new _ _ 34))
          have kwV102 := Lib.hid (kwu101.out.trans kV102)
          clear hV102 kV102
          clear cr50 cr51 lr5 cr60 cr61 lr6 cr70 cr71 cr72 cr73 cr74 lr7 cr110 cr111 cr112 cr113 cr114 lr11
          have cr50 := (r5V102.out 0 _ rfl).1
          have cr51 := (r5V102.out 1 _ rfl).1
          have lr5 := cell_lt cr50
          have cr60 := (r6V102.out 0 _ rfl).1
          have cr61 := (r6V102.out 1 _ rfl).1
          have lr6 := cell_lt cr60
          have cr70 := (r7V102.out 0 _ rfl).1
          have cr71 := (r7V102.out 1 _ rfl).1
          have cr72 := (r7V102.out 2 _ rfl).1
          have cr73 := (r7V102.out 3 _ rfl).1
          have cr74 := (r7V102.out 4 _ rfl).1
          have lr7 := cell_lt cr70
          have cr110 := (r11V102.out 0 _ rfl).1
          have cr111 := (r11V102.out 1 _ rfl).1
          have cr112 := (r11V102.out 2 _ rfl).1
          have cr113 := (r11V102.out 3 _ rfl).1
          have cr114 := (r11V102.out 4 _ rfl).1
          have lr11 := cell_lt cr110
          have cr120 := (r12V102.out 0 _ rfl).1
          have cr121 := (r12V102.out 1 _ rfl).1
          have cr122 := (r12V102.out 2 _ rfl).1
          have lr12 := cell_lt cr120
          refine (H2.out _).mono ?_
          rintro e u102 ⟨rfl, hk102⟩
          have r5u102 := Lib.hid (r5V102.out.kept hk102)
          clear r5V102
          have r6u102 := Lib.hid (r6V102.out.kept hk102)
          clear r6V102
          have r7u102 := Lib.hid (r7V102.out.kept hk102)
          clear r7V102
          have r11u102 := Lib.hid (r11V102.out.kept hk102)
          clear r11V102
          have r12u102 := Lib.hid (r12V102.out.kept hk102)
          clear r12V102
          have kwu102 := Lib.hid (kwV102.out.trans hk102)
          clear hk102
          clear cr50 cr51 lr5 cr60 cr61 lr6 cr70 cr71 cr72 cr73 cr74 lr7 cr110 cr111 cr112 cr113 cr114 lr11 cr120 cr121 cr122 lr12
          have cr50 := (r5u102.out 0 _ rfl).1
          have cr51 := (r5u102.out 1 _ rfl).1
          have lr5 := cell_lt cr50
          have cr60 := (r6u102.out 0 _ rfl).1
          have cr61 := (r6u102.out 1 _ rfl).1
          have lr6 := cell_lt cr60
          have cr70 := (r7u102.out 0 _ rfl).1
          have cr71 := (r7u102.out 1 _ rfl).1
          have cr72 := (r7u102.out 2 _ rfl).1
          have cr73 := (r7u102.out 3 _ rfl).1
          have cr74 := (r7u102.out 4 _ rfl).1
          have lr7 := cell_lt cr70
          have cr110 := (r11u102.out 0 _ rfl).1
          have cr111 := (r11u102.out 1 _ rfl).1
          have cr112 := (r11u102.out 2 _ rfl).1
          have cr113 := (r11u102.out 3 _ rfl).1
          have cr114 := (r11u102.out 4 _ rfl).1
          have lr11 := cell_lt cr110
          have cr120 := (r12u102.out 0 _ rfl).1
          have cr121 := (r12u102.out 1 _ rfl).1
          have cr122 := (r12u102.out 2 _ rfl).1
          have lr12 := cell_lt cr120
          go_wp2_with fail
          obtain ⟨V103, hV103⟩ : ∃ V103, V103 = u102.alloc (.cells #[.int .i64 y1, .int .i64 y2, .bool y3] 34) := ⟨_, rfl⟩
          rw [← hV103]
          have kV103 : Kept u102 V103 := by rw [hV103]; exact (Kept.refl _).alloc _
          have r5V103 := Lib.hid (r5u102.out.kept kV103)
          clear r5u102
          have r6V103 := Lib.hid (r6u102.out.kept kV103)
          clear r6u102
          have r7V103 := Lib.hid (r7u102.out.kept kV103)
          clear r7u102
          have r11V103 := Lib.hid (r11u102.out.kept kV103)
          clear r11u102
          have r12V103 := Lib.hid (r12u102.out.kept kV103)
          clear r12u102
          have r14V103 : RowKit.Hid (RowC V103 (u102.heap.size) [.int .i64 y1, .int .i64 y2, .bool y3]) := Lib.hid (by rw [hV103]; exact (RowC.new _ _ 34))
          have kwV103 := Lib.hid (kwu102.out.trans kV103)
          clear hV103 kV103
          clear cr50 cr51 lr5 cr60 cr61 lr6 cr70 cr71 cr72 cr73 cr74 lr7 cr110 cr111 cr112 cr113 cr114 lr11 cr120 cr121 cr122 lr12
          have cr50 := (r5V103.out 0 _ rfl).1
          have cr51 := (r5V103.out 1 _ rfl).1
          have lr5 := cell_lt cr50
          have cr60 := (r6V103.out 0 _ rfl).1
          have cr61 := (r6V103.out 1 _ rfl).1
          have lr6 := cell_lt cr60
          have cr70 := (r7V103.out 0 _ rfl).1
          have cr71 := (r7V103.out 1 _ rfl).1
          have cr72 := (r7V103.out 2 _ rfl).1
          have cr73 := (r7V103.out 3 _ rfl).1
          have cr74 := (r7V103.out 4 _ rfl).1
          have lr7 := cell_lt cr70
          have cr110 := (r11V103.out 0 _ rfl).1
          have cr111 := (r11V103.out 1 _ rfl).1
          have cr112 := (r11V103.out 2 _ rfl).1
          have cr113 := (r11V103.out 3 _ rfl).1
          have cr114 := (r11V103.out 4 _ rfl).1
          have lr11 := cell_lt cr110
          have cr120 := (r12V103.out 0 _ rfl).1
          have cr121 := (r12V103.out 1 _ rfl).1
          have cr122 := (r12V103.out 2 _ rfl).1
          have lr12 := cell_lt cr120
          have cr140 := (r14V103.out 0 _ rfl).1
          have cr141 := (r14V103.out 1 _ rfl).1
          have cr142 := (r14V103.out 2 _ rfl).1
          have lr14 := cell_lt cr140
          refine (H3.out _).mono ?_
          rintro e u103 ⟨rfl, hk103⟩
          have r5u103 := Lib.hid (r5V103.out.kept hk103)
          clear r5V103
          have r6u103 := Lib.hid (r6V103.out.kept hk103)
          clear r6V103
          have r7u103 := Lib.hid (r7V103.out.kept hk103)
          clear r7V103
          have r11u103 := Lib.hid (r11V103.out.kept hk103)
          clear r11V103
          have r12u103 := Lib.hid (r12V103.out.kept hk103)
          clear r12V103
          have r14u103 := Lib.hid (r14V103.out.kept hk103)
          clear r14V103
          have kwu103 := Lib.hid (kwV103.out.trans hk103)
          clear hk103
          clear cr50 cr51 lr5 cr60 cr61 lr6 cr70 cr71 cr72 cr73 cr74 lr7 cr110 cr111 cr112 cr113 cr114 lr11 cr120 cr121 cr122 lr12 cr140 cr141 cr142 lr14
          have cr50 := (r5u103.out 0 _ rfl).1
          have cr51 := (r5u103.out 1 _ rfl).1
          have lr5 := cell_lt cr50
          have cr60 := (r6u103.out 0 _ rfl).1
          have cr61 := (r6u103.out 1 _ rfl).1
          have lr6 := cell_lt cr60
          have cr70 := (r7u103.out 0 _ rfl).1
          have cr71 := (r7u103.out 1 _ rfl).1
          have cr72 := (r7u103.out 2 _ rfl).1
          have cr73 := (r7u103.out 3 _ rfl).1
          have cr74 := (r7u103.out 4 _ rfl).1
          have lr7 := cell_lt cr70
          have cr110 := (r11u103.out 0 _ rfl).1
          have cr111 := (r11u103.out 1 _ rfl).1
          have cr112 := (r11u103.out 2 _ rfl).1
          have cr113 := (r11u103.out 3 _ rfl).1
          have cr114 := (r11u103.out 4 _ rfl).1
          have lr11 := cell_lt cr110
          have cr120 := (r12u103.out 0 _ rfl).1
          have cr121 := (r12u103.out 1 _ rfl).1
          have cr122 := (r12u103.out 2 _ rfl).1
          have lr12 := cell_lt cr120
          have cr140 := (r14u103.out 0 _ rfl).1
          have cr141 := (r14u103.out 1 _ rfl).1
          have cr142 := (r14u103.out 2 _ rfl).1
          have lr14 := cell_lt cr140
          go_wp2_with fail
          obtain ⟨V104, hV104⟩ : ∃ V104, V104 = u103.alloc (.cells #[.int .i64 z1, .int .i64 z2, .bool z3] 34) := ⟨_, rfl⟩
          rw [← hV104]
          have kV104 : Kept u103 V104 := by rw [hV104]; exact (Kept.refl _).alloc _
          have r5V104 := Lib.hid (r5u103.out.kept kV104)
          clear r5u103
          have r6V104 := Lib.hid (r6u103.out.kept kV104)
          clear r6u103
          have r7V104 := Lib.hid (r7u103.out.kept kV104)
          clear r7u103
          have r11V104 := Lib.hid (r11u103.out.kept kV104)
          clear r11u103
          have r12V104 := Lib.hid (r12u103.out.kept kV104)
          clear r12u103
          have r14V104 := Lib.hid (r14u103.out.kept kV104)
          clear r14u103
          have r16V104 : RowKit.Hid (RowC V104 (u103.heap.size) [.int .i64 z1, .int .i64 z2, .bool z3]) := Lib.hid (by rw [hV104]; exact (RowC.new _ _ 34))
          have kwV104 := Lib.hid (kwu103.out.trans kV104)
          clear hV104 kV104
          clear cr50 cr51 lr5 cr60 cr61 lr6 cr70 cr71 cr72 cr73 cr74 lr7 cr110 cr111 cr112 cr113 cr114 lr11 cr120 cr121 cr122 lr12 cr140 cr141 cr142 lr14
          have cr50 := (r5V104.out 0 _ rfl).1
          have cr51 := (r5V104.out 1 _ rfl).1
          have lr5 := cell_lt cr50
          have cr60 := (r6V104.out 0 _ rfl).1
          have cr61 := (r6V104.out 1 _ rfl).1
          have lr6 := cell_lt cr60
          have cr70 := (r7V104.out 0 _ rfl).1
          have cr71 := (r7V104.out 1 _ rfl).1
          have cr72 := (r7V104.out 2 _ rfl).1
          have cr73 := (r7V104.out 3 _ rfl).1
          have cr74 := (r7V104.out 4 _ rfl).1
          have lr7 := cell_lt cr70
          have cr110 := (r11V104.out 0 _ rfl).1
          have cr111 := (r11V104.out 1 _ rfl).1
          have cr112 := (r11V104.out 2 _ rfl).1
          have cr113 := (r11V104.out 3 _ rfl).1
          have cr114 := (r11V104.out 4 _ rfl).1
          have lr11 := cell_lt cr110
          have cr120 := (r12V104.out 0 _ rfl).1
          have cr121 := (r12V104.out 1 _ rfl).1
          have cr122 := (r12V104.out 2 _ rfl).1
          have lr12 := cell_lt cr120
          have cr140 := (r14V104.out 0 _ rfl).1
          have cr141 := (r14V104.out 1 _ rfl).1
          have cr142 := (r14V104.out 2 _ rfl).1
          have lr14 := cell_lt cr140
          have cr160 := (r16V104.out 0 _ rfl).1
          have cr161 := (r16V104.out 1 _ rfl).1
          have cr162 := (r16V104.out 2 _ rfl).1
          have lr16 := cell_lt cr160
          refine (counted_any _).mono ?_
          rintro e u104 ⟨rfl, hk104⟩
          have r5u104 := Lib.hid (r5V104.out.kept hk104)
          clear r5V104
          have r6u104 := Lib.hid (r6V104.out.kept hk104)
          clear r6V104
          have r7u104 := Lib.hid (r7V104.out.kept hk104)
          clear r7V104
          have r11u104 := Lib.hid (r11V104.out.kept hk104)
          clear r11V104
          have r12u104 := Lib.hid (r12V104.out.kept hk104)
          clear r12V104
          have r14u104 := Lib.hid (r14V104.out.kept hk104)
          clear r14V104
          have r16u104 := Lib.hid (r16V104.out.kept hk104)
          clear r16V104
          have kwu104 := Lib.hid (kwV104.out.trans hk104)
          clear hk104
          clear cr50 cr51 lr5 cr60 cr61 lr6 cr70 cr71 cr72 cr73 cr74 lr7 cr110 cr111 cr112 cr113 cr114 lr11 cr120 cr121 cr122 lr12 cr140 cr141 cr142 lr14 cr160 cr161 cr162 lr16
          have cr50 := (r5u104.out 0 _ rfl).1
          have cr51 := (r5u104.out 1 _ rfl).1
          have lr5 := cell_lt cr50
          have cr60 := (r6u104.out 0 _ rfl).1
          have cr61 := (r6u104.out 1 _ rfl).1
          have lr6 := cell_lt cr60
          have cr70 := (r7u104.out 0 _ rfl).1
          have cr71 := (r7u104.out 1 _ rfl).1
          have cr72 := (r7u104.out 2 _ rfl).1
          have cr73 := (r7u104.out 3 _ rfl).1
          have cr74 := (r7u104.out 4 _ rfl).1
          have lr7 := cell_lt cr70
          have cr110 := (r11u104.out 0 _ rfl).1
          have cr111 := (r11u104.out 1 _ rfl).1
          have cr112 := (r11u104.out 2 _ rfl).1
          have cr113 := (r11u104.out 3 _ rfl).1
          have cr114 := (r11u104.out 4 _ rfl).1
          have lr11 := cell_lt cr110
          have cr120 := (r12u104.out 0 _ rfl).1
          have cr121 := (r12u104.out 1 _ rfl).1
          have cr122 := (r12u104.out 2 _ rfl).1
          have lr12 := cell_lt cr120
          have cr140 := (r14u104.out 0 _ rfl).1
          have cr141 := (r14u104.out 1 _ rfl).1
          have cr142 := (r14u104.out 2 _ rfl).1
          have lr14 := cell_lt cr140
          have cr160 := (r16u104.out 0 _ rfl).1
          have cr161 := (r16u104.out 1 _ rfl).1
          have cr162 := (r16u104.out 2 _ rfl).1
          have lr16 := cell_lt cr160
          go_wp2_with fail
          obtain ⟨V105, hV105⟩ : ∃ V105, V105 = u104 := ⟨_, rfl⟩
          rw [← hV105]
          have kV105 : Kept u104 V105 := by rw [hV105]; exact Kept.refl _
          have r5V105 := Lib.hid (r5u104.out.kept kV105)
          clear r5u104
          have r6V105 := Lib.hid (r6u104.out.kept kV105)
          clear r6u104
          have r7V105 := Lib.hid (r7u104.out.kept kV105)
          clear r7u104
          have r11V105 := Lib.hid (r11u104.out.kept kV105)
          clear r11u104
          have r12V105 := Lib.hid (r12u104.out.kept kV105)
          clear r12u104
          have r14V105 := Lib.hid (r14u104.out.kept kV105)
          clear r14u104
          have r16V105 := Lib.hid (r16u104.out.kept kV105)
          clear r16u104
          have kwV105 := Lib.hid (kwu104.out.trans kV105)
          clear hV105 kV105
          clear cr50 cr51 lr5 cr60 cr61 lr6 cr70 cr71 cr72 cr73 cr74 lr7 cr110 cr111 cr112 cr113 cr114 lr11 cr120 cr121 cr122 lr12 cr140 cr141 cr142 lr14 cr160 cr161 cr162 lr16
          have cr50 := (r5V105.out 0 _ rfl).1
          have cr51 := (r5V105.out 1 _ rfl).1
          have lr5 := cell_lt cr50
          have cr60 := (r6V105.out 0 _ rfl).1
          have cr61 := (r6V105.out 1 _ rfl).1
          have lr6 := cell_lt cr60
          have cr70 := (r7V105.out 0 _ rfl).1
          have cr71 := (r7V105.out 1 _ rfl).1
          have cr72 := (r7V105.out 2 _ rfl).1
          have cr73 := (r7V105.out 3 _ rfl).1
          have cr74 := (r7V105.out 4 _ rfl).1
          have lr7 := cell_lt cr70
          have cr110 := (r11V105.out 0 _ rfl).1
          have cr111 := (r11V105.out 1 _ rfl).1
          have cr112 := (r11V105.out 2 _ rfl).1
          have cr113 := (r11V105.out 3 _ rfl).1
          have cr114 := (r11V105.out 4 _ rfl).1
          have lr11 := cell_lt cr110
          have cr120 := (r12V105.out 0 _ rfl).1
          have cr121 := (r12V105.out 1 _ rfl).1
          have cr122 := (r12V105.out 2 _ rfl).1
          have lr12 := cell_lt cr120
          have cr140 := (r14V105.out 0 _ rfl).1
          have cr141 := (r14V105.out 1 _ rfl).1
          have cr142 := (r14V105.out 2 _ rfl).1
          have lr14 := cell_lt cr140
          have cr160 := (r16V105.out 0 _ rfl).1
          have cr161 := (r16V105.out 1 _ rfl).1
          have cr162 := (r16V105.out 2 _ rfl).1
          have lr16 := cell_lt cr160
          refine (HX.out _).mono ?_
          rintro e u105 ⟨rfl, hk105⟩
          have r5u105 := Lib.hid (r5V105.out.kept hk105)
          clear r5V105
          have r6u105 := Lib.hid (r6V105.out.kept hk105)
          clear r6V105
          have r7u105 := Lib.hid (r7V105.out.kept hk105)
          clear r7V105
          have r11u105 := Lib.hid (r11V105.out.kept hk105)
          clear r11V105
          have r12u105 := Lib.hid (r12V105.out.kept hk105)
          clear r12V105
          have r14u105 := Lib.hid (r14V105.out.kept hk105)
          clear r14V105
          have r16u105 := Lib.hid (r16V105.out.kept hk105)
          clear r16V105
          have kwu105 := Lib.hid (kwV105.out.trans hk105)
          clear hk105
          clear cr50 cr51 lr5 cr60 cr61 lr6 cr70 cr71 cr72 cr73 cr74 lr7 cr110 cr111 cr112 cr113 cr114 lr11 cr120 cr121 cr122 lr12 cr140 cr141 cr142 lr14 cr160 cr161 cr162 lr16
          have cr50 := (r5u105.out 0 _ rfl).1
          have cr51 := (r5u105.out 1 _ rfl).1
          have lr5 := cell_lt cr50
          have cr60 := (r6u105.out 0 _ rfl).1
          have cr61 := (r6u105.out 1 _ rfl).1
          have lr6 := cell_lt cr60
          have cr70 := (r7u105.out 0 _ rfl).1
          have cr71 := (r7u105.out 1 _ rfl).1
          have cr72 := (r7u105.out 2 _ rfl).1
          have cr73 := (r7u105.out 3 _ rfl).1
          have cr74 := (r7u105.out 4 _ rfl).1
          have lr7 := cell_lt cr70
          have cr110 := (r11u105.out 0 _ rfl).1
          have cr111 := (r11u105.out 1 _ rfl).1
          have cr112 := (r11u105.out 2 _ rfl).1
          have cr113 := (r11u105.out 3 _ rfl).1
          have cr114 := (r11u105.out 4 _ rfl).1
          have lr11 := cell_lt cr110
          have cr120 := (r12u105.out 0 _ rfl).1
          have cr121 := (r12u105.out 1 _ rfl).1
          have cr122 := (r12u105.out 2 _ rfl).1
          have lr12 := cell_lt cr120
          have cr140 := (r14u105.out 0 _ rfl).1
          have cr141 := (r14u105.out 1 _ rfl).1
          have cr142 := (r14u105.out 2 _ rfl).1
          have lr14 := cell_lt cr140
          have cr160 := (r16u105.out 0 _ rfl).1
          have cr161 := (r16u105.out 1 _ rfl).1
          have cr162 := (r16u105.out 2 _ rfl).1
          have lr16 := cell_lt cr160
          go_wp2
          go_ret
          exact ⟨rfl, kwu105.out⟩
        · obtain ⟨h5, h6⟩ := HIN.out rfl rfl rfl
          subst h5 h6
          clear HIN
          go_enter Try.func11, Try.ntmps11
          go_upto_region 1 with (fail)
          rw [← HW.out]
          go_upto_region 3 with (first
        | (go_at_call 55; refine (HN.out _).mono ?_; rintro e w1 ⟨rfl, hk⟩; replace kk := (by first | with_reducible exact kk.trans hk | with_reducible exact (kk.alloc _).trans hk | with_reducible exact kk.drew.trans hk | with_reducible exact (kk.drew.alloc _).trans hk | with_reducible exact (kk.alloc _).drew.trans hk | with_reducible exact ((kk.alloc _).alloc _).trans hk | with_reducible exact ((kk.drew.alloc _).alloc _).trans hk | fail); obtain ⟨c00, c01, c10, c11, c20, c21, c22, c23, c24⟩ := BR.out _ kk; have b0 := cell_lt c00; have b1 := cell_lt c10; have b2 := cell_lt c20)
        | (go_at_call 57; refine (HL.out _).mono ?_; rintro e w1 ⟨rfl, hk⟩; replace kk := kk.trans hk; obtain ⟨c00, c01, c10, c11, c20, c21, c22, c23, c24⟩ := BR.out _ kk)
        | (go_at_call 30; refine (counted_any _).mono ?_; rintro e w1 ⟨rfl, hk⟩; replace kk := (by first | with_reducible exact kk.trans hk | with_reducible exact (kk.alloc _).trans hk | with_reducible exact kk.drew.trans hk | with_reducible exact (kk.drew.alloc _).trans hk | with_reducible exact (kk.alloc _).drew.trans hk | with_reducible exact ((kk.alloc _).alloc _).trans hk | with_reducible exact ((kk.drew.alloc _).alloc _).trans hk | fail); obtain ⟨c00, c01, c10, c11, c20, c21, c22, c23, c24⟩ := BR.out _ kk; have b0 := cell_lt c00; have b1 := cell_lt c10; have b2 := cell_lt c20)
        | fail)
          rename World => wk
          have kwwk := Lib.hid (K0.out.trans kk)
          have r5wk : RowKit.Hid (RowC wk w.heap.size [.int .i64 m, .int .i64 d]) := Lib.hid ((show RowC W0 _ _ by rw [HW.out]; exact (RowC.new _ _ 23).kept (((Kept.refl _).alloc _).alloc _)).kept kk)
          have r6wk : RowKit.Hid (RowC wk (w.heap.size + 1) [.int .i64 m2, .int .i64 d2]) := Lib.hid ((show RowC W0 _ _ by rw [HW.out]; exact (RowC.atn (vs := [.int .i64 m2, .int .i64 d2]) (by simp)).kept ((Kept.refl _).alloc _)).kept kk)
          have r7wk : RowKit.Hid (RowC wk (w.heap.size + 1 + 1) [.int .i64 i, .int .i64 dy, .int .i64 s, .int .i64 nu, .int .i64 x]) := Lib.hid ((show RowC W0 _ _ by rw [HW.out]; exact RowC.atn (vs := [.int .i64 i, .int .i64 dy, .int .i64 s, .int .i64 nu, .int .i64 x]) (by simp)).kept kk)
          clear kk c00 c01 c10 c11 c20 c21 c22 c23 c24 b0 b1 b2
          have cr50 := (r5wk.out 0 _ rfl).1
          have cr51 := (r5wk.out 1 _ rfl).1
          have lr5 := cell_lt cr50
          have cr60 := (r6wk.out 0 _ rfl).1
          have cr61 := (r6wk.out 1 _ rfl).1
          have lr6 := cell_lt cr60
          have cr70 := (r7wk.out 0 _ rfl).1
          have cr71 := (r7wk.out 1 _ rfl).1
          have cr72 := (r7wk.out 2 _ rfl).1
          have cr73 := (r7wk.out 3 _ rfl).1
          have cr74 := (r7wk.out 4 _ rfl).1
          have lr7 := cell_lt cr70
          go_wp2_with fail
          obtain ⟨V101, hV101⟩ : ∃ V101, V101 = wk.alloc (.cells #[.int .i64 i, .int .i64 dy, .int .i64 s, .int .i64 nu, .int .i64 sm] 25) := ⟨_, rfl⟩
          rw [← hV101]
          have kV101 : Kept wk V101 := by rw [hV101]; exact (Kept.refl _).alloc _
          have r5V101 := Lib.hid (r5wk.out.kept kV101)
          clear r5wk
          have r6V101 := Lib.hid (r6wk.out.kept kV101)
          clear r6wk
          have r7V101 := Lib.hid (r7wk.out.kept kV101)
          clear r7wk
          have r11V101 : RowKit.Hid (RowC V101 (wk.heap.size) [.int .i64 i, .int .i64 dy, .int .i64 s, .int .i64 nu, .int .i64 sm]) := Lib.hid (by rw [hV101]; exact (RowC.new _ _ 25))
          have kwV101 := Lib.hid (kwwk.out.trans kV101)
          clear hV101 kV101
          clear cr50 cr51 lr5 cr60 cr61 lr6 cr70 cr71 cr72 cr73 cr74 lr7
          have cr50 := (r5V101.out 0 _ rfl).1
          have cr51 := (r5V101.out 1 _ rfl).1
          have lr5 := cell_lt cr50
          have cr60 := (r6V101.out 0 _ rfl).1
          have cr61 := (r6V101.out 1 _ rfl).1
          have lr6 := cell_lt cr60
          have cr70 := (r7V101.out 0 _ rfl).1
          have cr71 := (r7V101.out 1 _ rfl).1
          have cr72 := (r7V101.out 2 _ rfl).1
          have cr73 := (r7V101.out 3 _ rfl).1
          have cr74 := (r7V101.out 4 _ rfl).1
          have lr7 := cell_lt cr70
          have cr110 := (r11V101.out 0 _ rfl).1
          have cr111 := (r11V101.out 1 _ rfl).1
          have cr112 := (r11V101.out 2 _ rfl).1
          have cr113 := (r11V101.out 3 _ rfl).1
          have cr114 := (r11V101.out 4 _ rfl).1
          have lr11 := cell_lt cr110
          refine (H1.out _).mono ?_
          rintro e u101 ⟨rfl, hk101⟩
          have r5u101 := Lib.hid (r5V101.out.kept hk101)
          clear r5V101
          have r6u101 := Lib.hid (r6V101.out.kept hk101)
          clear r6V101
          have r7u101 := Lib.hid (r7V101.out.kept hk101)
          clear r7V101
          have r11u101 := Lib.hid (r11V101.out.kept hk101)
          clear r11V101
          have kwu101 := Lib.hid (kwV101.out.trans hk101)
          clear hk101
          clear cr50 cr51 lr5 cr60 cr61 lr6 cr70 cr71 cr72 cr73 cr74 lr7 cr110 cr111 cr112 cr113 cr114 lr11
          have cr50 := (r5u101.out 0 _ rfl).1
          have cr51 := (r5u101.out 1 _ rfl).1
          have lr5 := cell_lt cr50
          have cr60 := (r6u101.out 0 _ rfl).1
          have cr61 := (r6u101.out 1 _ rfl).1
          have lr6 := cell_lt cr60
          have cr70 := (r7u101.out 0 _ rfl).1
          have cr71 := (r7u101.out 1 _ rfl).1
          have cr72 := (r7u101.out 2 _ rfl).1
          have cr73 := (r7u101.out 3 _ rfl).1
          have cr74 := (r7u101.out 4 _ rfl).1
          have lr7 := cell_lt cr70
          have cr110 := (r11u101.out 0 _ rfl).1
          have cr111 := (r11u101.out 1 _ rfl).1
          have cr112 := (r11u101.out 2 _ rfl).1
          have cr113 := (r11u101.out 3 _ rfl).1
          have cr114 := (r11u101.out 4 _ rfl).1
          have lr11 := cell_lt cr110
          go_wp2_with fail
          obtain ⟨V102, hV102⟩ : ∃ V102, V102 = u101.alloc (.cells #[.int .i64 x1, .int .i64 x2, .bool x3] 34) := ⟨_, rfl⟩
          rw [← hV102]
          have kV102 : Kept u101 V102 := by rw [hV102]; exact (Kept.refl _).alloc _
          have r5V102 := Lib.hid (r5u101.out.kept kV102)
          clear r5u101
          have r6V102 := Lib.hid (r6u101.out.kept kV102)
          clear r6u101
          have r7V102 := Lib.hid (r7u101.out.kept kV102)
          clear r7u101
          have r11V102 := Lib.hid (r11u101.out.kept kV102)
          clear r11u101
          have r12V102 : RowKit.Hid (RowC V102 (u101.heap.size) [.int .i64 x1, .int .i64 x2, .bool x3]) := Lib.hid (by rw [hV102]; exact (RowC.new _ _ 34))
          have kwV102 := Lib.hid (kwu101.out.trans kV102)
          clear hV102 kV102
          clear cr50 cr51 lr5 cr60 cr61 lr6 cr70 cr71 cr72 cr73 cr74 lr7 cr110 cr111 cr112 cr113 cr114 lr11
          have cr50 := (r5V102.out 0 _ rfl).1
          have cr51 := (r5V102.out 1 _ rfl).1
          have lr5 := cell_lt cr50
          have cr60 := (r6V102.out 0 _ rfl).1
          have cr61 := (r6V102.out 1 _ rfl).1
          have lr6 := cell_lt cr60
          have cr70 := (r7V102.out 0 _ rfl).1
          have cr71 := (r7V102.out 1 _ rfl).1
          have cr72 := (r7V102.out 2 _ rfl).1
          have cr73 := (r7V102.out 3 _ rfl).1
          have cr74 := (r7V102.out 4 _ rfl).1
          have lr7 := cell_lt cr70
          have cr110 := (r11V102.out 0 _ rfl).1
          have cr111 := (r11V102.out 1 _ rfl).1
          have cr112 := (r11V102.out 2 _ rfl).1
          have cr113 := (r11V102.out 3 _ rfl).1
          have cr114 := (r11V102.out 4 _ rfl).1
          have lr11 := cell_lt cr110
          have cr120 := (r12V102.out 0 _ rfl).1
          have cr121 := (r12V102.out 1 _ rfl).1
          have cr122 := (r12V102.out 2 _ rfl).1
          have lr12 := cell_lt cr120
          refine (H2.out _).mono ?_
          rintro e u102 ⟨rfl, hk102⟩
          have r5u102 := Lib.hid (r5V102.out.kept hk102)
          clear r5V102
          have r6u102 := Lib.hid (r6V102.out.kept hk102)
          clear r6V102
          have r7u102 := Lib.hid (r7V102.out.kept hk102)
          clear r7V102
          have r11u102 := Lib.hid (r11V102.out.kept hk102)
          clear r11V102
          have r12u102 := Lib.hid (r12V102.out.kept hk102)
          clear r12V102
          have kwu102 := Lib.hid (kwV102.out.trans hk102)
          clear hk102
          clear cr50 cr51 lr5 cr60 cr61 lr6 cr70 cr71 cr72 cr73 cr74 lr7 cr110 cr111 cr112 cr113 cr114 lr11 cr120 cr121 cr122 lr12
          have cr50 := (r5u102.out 0 _ rfl).1
          have cr51 := (r5u102.out 1 _ rfl).1
          have lr5 := cell_lt cr50
          have cr60 := (r6u102.out 0 _ rfl).1
          have cr61 := (r6u102.out 1 _ rfl).1
          have lr6 := cell_lt cr60
          have cr70 := (r7u102.out 0 _ rfl).1
          have cr71 := (r7u102.out 1 _ rfl).1
          have cr72 := (r7u102.out 2 _ rfl).1
          have cr73 := (r7u102.out 3 _ rfl).1
          have cr74 := (r7u102.out 4 _ rfl).1
          have lr7 := cell_lt cr70
          have cr110 := (r11u102.out 0 _ rfl).1
          have cr111 := (r11u102.out 1 _ rfl).1
          have cr112 := (r11u102.out 2 _ rfl).1
          have cr113 := (r11u102.out 3 _ rfl).1
          have cr114 := (r11u102.out 4 _ rfl).1
          have lr11 := cell_lt cr110
          have cr120 := (r12u102.out 0 _ rfl).1
          have cr121 := (r12u102.out 1 _ rfl).1
          have cr122 := (r12u102.out 2 _ rfl).1
          have lr12 := cell_lt cr120
          go_wp2_with fail
          obtain ⟨V103, hV103⟩ : ∃ V103, V103 = u102.alloc (.cells #[.int .i64 y1, .int .i64 y2, .bool y3] 34) := ⟨_, rfl⟩
          rw [← hV103]
          have kV103 : Kept u102 V103 := by rw [hV103]; exact (Kept.refl _).alloc _
          have r5V103 := Lib.hid (r5u102.out.kept kV103)
          clear r5u102
          have r6V103 := Lib.hid (r6u102.out.kept kV103)
          clear r6u102
          have r7V103 := Lib.hid (r7u102.out.kept kV103)
          clear r7u102
          have r11V103 := Lib.hid (r11u102.out.kept kV103)
          clear r11u102
          have r12V103 := Lib.hid (r12u102.out.kept kV103)
          clear r12u102
          have r14V103 : RowKit.Hid (RowC V103 (u102.heap.size) [.int .i64 y1, .int .i64 y2, .bool y3]) := Lib.hid (by rw [hV103]; exact (RowC.new _ _ 34))
          have kwV103 := Lib.hid (kwu102.out.trans kV103)
          clear hV103 kV103
          clear cr50 cr51 lr5 cr60 cr61 lr6 cr70 cr71 cr72 cr73 cr74 lr7 cr110 cr111 cr112 cr113 cr114 lr11 cr120 cr121 cr122 lr12
          have cr50 := (r5V103.out 0 _ rfl).1
          have cr51 := (r5V103.out 1 _ rfl).1
          have lr5 := cell_lt cr50
          have cr60 := (r6V103.out 0 _ rfl).1
          have cr61 := (r6V103.out 1 _ rfl).1
          have lr6 := cell_lt cr60
          have cr70 := (r7V103.out 0 _ rfl).1
          have cr71 := (r7V103.out 1 _ rfl).1
          have cr72 := (r7V103.out 2 _ rfl).1
          have cr73 := (r7V103.out 3 _ rfl).1
          have cr74 := (r7V103.out 4 _ rfl).1
          have lr7 := cell_lt cr70
          have cr110 := (r11V103.out 0 _ rfl).1
          have cr111 := (r11V103.out 1 _ rfl).1
          have cr112 := (r11V103.out 2 _ rfl).1
          have cr113 := (r11V103.out 3 _ rfl).1
          have cr114 := (r11V103.out 4 _ rfl).1
          have lr11 := cell_lt cr110
          have cr120 := (r12V103.out 0 _ rfl).1
          have cr121 := (r12V103.out 1 _ rfl).1
          have cr122 := (r12V103.out 2 _ rfl).1
          have lr12 := cell_lt cr120
          have cr140 := (r14V103.out 0 _ rfl).1
          have cr141 := (r14V103.out 1 _ rfl).1
          have cr142 := (r14V103.out 2 _ rfl).1
          have lr14 := cell_lt cr140
          refine (H3.out _).mono ?_
          rintro e u103 ⟨rfl, hk103⟩
          have r5u103 := Lib.hid (r5V103.out.kept hk103)
          clear r5V103
          have r6u103 := Lib.hid (r6V103.out.kept hk103)
          clear r6V103
          have r7u103 := Lib.hid (r7V103.out.kept hk103)
          clear r7V103
          have r11u103 := Lib.hid (r11V103.out.kept hk103)
          clear r11V103
          have r12u103 := Lib.hid (r12V103.out.kept hk103)
          clear r12V103
          have r14u103 := Lib.hid (r14V103.out.kept hk103)
          clear r14V103
          have kwu103 := Lib.hid (kwV103.out.trans hk103)
          clear hk103
          clear cr50 cr51 lr5 cr60 cr61 lr6 cr70 cr71 cr72 cr73 cr74 lr7 cr110 cr111 cr112 cr113 cr114 lr11 cr120 cr121 cr122 lr12 cr140 cr141 cr142 lr14
          have cr50 := (r5u103.out 0 _ rfl).1
          have cr51 := (r5u103.out 1 _ rfl).1
          have lr5 := cell_lt cr50
          have cr60 := (r6u103.out 0 _ rfl).1
          have cr61 := (r6u103.out 1 _ rfl).1
          have lr6 := cell_lt cr60
          have cr70 := (r7u103.out 0 _ rfl).1
          have cr71 := (r7u103.out 1 _ rfl).1
          have cr72 := (r7u103.out 2 _ rfl).1
          have cr73 := (r7u103.out 3 _ rfl).1
          have cr74 := (r7u103.out 4 _ rfl).1
          have lr7 := cell_lt cr70
          have cr110 := (r11u103.out 0 _ rfl).1
          have cr111 := (r11u103.out 1 _ rfl).1
          have cr112 := (r11u103.out 2 _ rfl).1
          have cr113 := (r11u103.out 3 _ rfl).1
          have cr114 := (r11u103.out 4 _ rfl).1
          have lr11 := cell_lt cr110
          have cr120 := (r12u103.out 0 _ rfl).1
          have cr121 := (r12u103.out 1 _ rfl).1
          have cr122 := (r12u103.out 2 _ rfl).1
          have lr12 := cell_lt cr120
          have cr140 := (r14u103.out 0 _ rfl).1
          have cr141 := (r14u103.out 1 _ rfl).1
          have cr142 := (r14u103.out 2 _ rfl).1
          have lr14 := cell_lt cr140
          go_wp2_with fail
          obtain ⟨V104, hV104⟩ : ∃ V104, V104 = u103.alloc (.cells #[.int .i64 z1, .int .i64 z2, .bool z3] 34) := ⟨_, rfl⟩
          rw [← hV104]
          have kV104 : Kept u103 V104 := by rw [hV104]; exact (Kept.refl _).alloc _
          have r5V104 := Lib.hid (r5u103.out.kept kV104)
          clear r5u103
          have r6V104 := Lib.hid (r6u103.out.kept kV104)
          clear r6u103
          have r7V104 := Lib.hid (r7u103.out.kept kV104)
          clear r7u103
          have r11V104 := Lib.hid (r11u103.out.kept kV104)
          clear r11u103
          have r12V104 := Lib.hid (r12u103.out.kept kV104)
          clear r12u103
          have r14V104 := Lib.hid (r14u103.out.kept kV104)
          clear r14u103
          have r16V104 : RowKit.Hid (RowC V104 (u103.heap.size) [.int .i64 z1, .int .i64 z2, .bool z3]) := Lib.hid (by rw [hV104]; exact (RowC.new _ _ 34))
          have kwV104 := Lib.hid (kwu103.out.trans kV104)
          clear hV104 kV104
          clear cr50 cr51 lr5 cr60 cr61 lr6 cr70 cr71 cr72 cr73 cr74 lr7 cr110 cr111 cr112 cr113 cr114 lr11 cr120 cr121 cr122 lr12 cr140 cr141 cr142 lr14
          have cr50 := (r5V104.out 0 _ rfl).1
          have cr51 := (r5V104.out 1 _ rfl).1
          have lr5 := cell_lt cr50
          have cr60 := (r6V104.out 0 _ rfl).1
          have cr61 := (r6V104.out 1 _ rfl).1
          have lr6 := cell_lt cr60
          have cr70 := (r7V104.out 0 _ rfl).1
          have cr71 := (r7V104.out 1 _ rfl).1
          have cr72 := (r7V104.out 2 _ rfl).1
          have cr73 := (r7V104.out 3 _ rfl).1
          have cr74 := (r7V104.out 4 _ rfl).1
          have lr7 := cell_lt cr70
          have cr110 := (r11V104.out 0 _ rfl).1
          have cr111 := (r11V104.out 1 _ rfl).1
          have cr112 := (r11V104.out 2 _ rfl).1
          have cr113 := (r11V104.out 3 _ rfl).1
          have cr114 := (r11V104.out 4 _ rfl).1
          have lr11 := cell_lt cr110
          have cr120 := (r12V104.out 0 _ rfl).1
          have cr121 := (r12V104.out 1 _ rfl).1
          have cr122 := (r12V104.out 2 _ rfl).1
          have lr12 := cell_lt cr120
          have cr140 := (r14V104.out 0 _ rfl).1
          have cr141 := (r14V104.out 1 _ rfl).1
          have cr142 := (r14V104.out 2 _ rfl).1
          have lr14 := cell_lt cr140
          have cr160 := (r16V104.out 0 _ rfl).1
          have cr161 := (r16V104.out 1 _ rfl).1
          have cr162 := (r16V104.out 2 _ rfl).1
          have lr16 := cell_lt cr160
          refine (counted_any _).mono ?_
          rintro e u104 ⟨rfl, hk104⟩
          have r5u104 := Lib.hid (r5V104.out.kept hk104)
          clear r5V104
          have r6u104 := Lib.hid (r6V104.out.kept hk104)
          clear r6V104
          have r7u104 := Lib.hid (r7V104.out.kept hk104)
          clear r7V104
          have r11u104 := Lib.hid (r11V104.out.kept hk104)
          clear r11V104
          have r12u104 := Lib.hid (r12V104.out.kept hk104)
          clear r12V104
          have r14u104 := Lib.hid (r14V104.out.kept hk104)
          clear r14V104
          have r16u104 := Lib.hid (r16V104.out.kept hk104)
          clear r16V104
          have kwu104 := Lib.hid (kwV104.out.trans hk104)
          clear hk104
          clear cr50 cr51 lr5 cr60 cr61 lr6 cr70 cr71 cr72 cr73 cr74 lr7 cr110 cr111 cr112 cr113 cr114 lr11 cr120 cr121 cr122 lr12 cr140 cr141 cr142 lr14 cr160 cr161 cr162 lr16
          have cr50 := (r5u104.out 0 _ rfl).1
          have cr51 := (r5u104.out 1 _ rfl).1
          have lr5 := cell_lt cr50
          have cr60 := (r6u104.out 0 _ rfl).1
          have cr61 := (r6u104.out 1 _ rfl).1
          have lr6 := cell_lt cr60
          have cr70 := (r7u104.out 0 _ rfl).1
          have cr71 := (r7u104.out 1 _ rfl).1
          have cr72 := (r7u104.out 2 _ rfl).1
          have cr73 := (r7u104.out 3 _ rfl).1
          have cr74 := (r7u104.out 4 _ rfl).1
          have lr7 := cell_lt cr70
          have cr110 := (r11u104.out 0 _ rfl).1
          have cr111 := (r11u104.out 1 _ rfl).1
          have cr112 := (r11u104.out 2 _ rfl).1
          have cr113 := (r11u104.out 3 _ rfl).1
          have cr114 := (r11u104.out 4 _ rfl).1
          have lr11 := cell_lt cr110
          have cr120 := (r12u104.out 0 _ rfl).1
          have cr121 := (r12u104.out 1 _ rfl).1
          have cr122 := (r12u104.out 2 _ rfl).1
          have lr12 := cell_lt cr120
          have cr140 := (r14u104.out 0 _ rfl).1
          have cr141 := (r14u104.out 1 _ rfl).1
          have cr142 := (r14u104.out 2 _ rfl).1
          have lr14 := cell_lt cr140
          have cr160 := (r16u104.out 0 _ rfl).1
          have cr161 := (r16u104.out 1 _ rfl).1
          have cr162 := (r16u104.out 2 _ rfl).1
          have lr16 := cell_lt cr160
          go_wp2_with fail
          obtain ⟨V105, hV105⟩ : ∃ V105, V105 = u104 := ⟨_, rfl⟩
          rw [← hV105]
          have kV105 : Kept u104 V105 := by rw [hV105]; exact Kept.refl _
          have r5V105 := Lib.hid (r5u104.out.kept kV105)
          clear r5u104
          have r6V105 := Lib.hid (r6u104.out.kept kV105)
          clear r6u104
          have r7V105 := Lib.hid (r7u104.out.kept kV105)
          clear r7u104
          have r11V105 := Lib.hid (r11u104.out.kept kV105)
          clear r11u104
          have r12V105 := Lib.hid (r12u104.out.kept kV105)
          clear r12u104
          have r14V105 := Lib.hid (r14u104.out.kept kV105)
          clear r14u104
          have r16V105 := Lib.hid (r16u104.out.kept kV105)
          clear r16u104
          have kwV105 := Lib.hid (kwu104.out.trans kV105)
          clear hV105 kV105
          clear cr50 cr51 lr5 cr60 cr61 lr6 cr70 cr71 cr72 cr73 cr74 lr7 cr110 cr111 cr112 cr113 cr114 lr11 cr120 cr121 cr122 lr12 cr140 cr141 cr142 lr14 cr160 cr161 cr162 lr16
          have cr50 := (r5V105.out 0 _ rfl).1
          have cr51 := (r5V105.out 1 _ rfl).1
          have lr5 := cell_lt cr50
          have cr60 := (r6V105.out 0 _ rfl).1
          have cr61 := (r6V105.out 1 _ rfl).1
          have lr6 := cell_lt cr60
          have cr70 := (r7V105.out 0 _ rfl).1
          have cr71 := (r7V105.out 1 _ rfl).1
          have cr72 := (r7V105.out 2 _ rfl).1
          have cr73 := (r7V105.out 3 _ rfl).1
          have cr74 := (r7V105.out 4 _ rfl).1
          have lr7 := cell_lt cr70
          have cr110 := (r11V105.out 0 _ rfl).1
          have cr111 := (r11V105.out 1 _ rfl).1
          have cr112 := (r11V105.out 2 _ rfl).1
          have cr113 := (r11V105.out 3 _ rfl).1
          have cr114 := (r11V105.out 4 _ rfl).1
          have lr11 := cell_lt cr110
          have cr120 := (r12V105.out 0 _ rfl).1
          have cr121 := (r12V105.out 1 _ rfl).1
          have cr122 := (r12V105.out 2 _ rfl).1
          have lr12 := cell_lt cr120
          have cr140 := (r14V105.out 0 _ rfl).1
          have cr141 := (r14V105.out 1 _ rfl).1
          have cr142 := (r14V105.out 2 _ rfl).1
          have lr14 := cell_lt cr140
          have cr160 := (r16V105.out 0 _ rfl).1
          have cr161 := (r16V105.out 1 _ rfl).1
          have cr162 := (r16V105.out 2 _ rfl).1
          have lr16 := cell_lt cr160
          refine (HX.out _).mono ?_
          rintro e u105 ⟨rfl, hk105⟩
          have r5u105 := Lib.hid (r5V105.out.kept hk105)
          clear r5V105
          have r6u105 := Lib.hid (r6V105.out.kept hk105)
          clear r6V105
          have r7u105 := Lib.hid (r7V105.out.kept hk105)
          clear r7V105
          have r11u105 := Lib.hid (r11V105.out.kept hk105)
          clear r11V105
          have r12u105 := Lib.hid (r12V105.out.kept hk105)
          clear r12V105
          have r14u105 := Lib.hid (r14V105.out.kept hk105)
          clear r14V105
          have r16u105 := Lib.hid (r16V105.out.kept hk105)
          clear r16V105
          have kwu105 := Lib.hid (kwV105.out.trans hk105)
          clear hk105
          clear cr50 cr51 lr5 cr60 cr61 lr6 cr70 cr71 cr72 cr73 cr74 lr7 cr110 cr111 cr112 cr113 cr114 lr11 cr120 cr121 cr122 lr12 cr140 cr141 cr142 lr14 cr160 cr161 cr162 lr16
          have cr50 := (r5u105.out 0 _ rfl).1
          have cr51 := (r5u105.out 1 _ rfl).1
          have lr5 := cell_lt cr50
          have cr60 := (r6u105.out 0 _ rfl).1
          have cr61 := (r6u105.out 1 _ rfl).1
          have lr6 := cell_lt cr60
          have cr70 := (r7u105.out 0 _ rfl).1
          have cr71 := (r7u105.out 1 _ rfl).1
          have cr72 := (r7u105.out 2 _ rfl).1
          have cr73 := (r7u105.out 3 _ rfl).1
          have cr74 := (r7u105.out 4 _ rfl).1
          have lr7 := cell_lt cr70
          have cr110 := (r11u105.out 0 _ rfl).1
          have cr111 := (r11u105.out 1 _ rfl).1
          have cr112 := (r11u105.out 2 _ rfl).1
          have cr113 := (r11u105.out 3 _ rfl).1
          have cr114 := (r11u105.out 4 _ rfl).1
          have lr11 := cell_lt cr110
          have cr120 := (r12u105.out 0 _ rfl).1
          have cr121 := (r12u105.out 1 _ rfl).1
          have cr122 := (r12u105.out 2 _ rfl).1
          have lr12 := cell_lt cr120
          have cr140 := (r14u105.out 0 _ rfl).1
          have cr141 := (r14u105.out 1 _ rfl).1
          have cr142 := (r14u105.out 2 _ rfl).1
          have lr14 := cell_lt cr140
          have cr160 := (r16u105.out 0 _ rfl).1
          have cr161 := (r16u105.out 1 _ rfl).1
          have cr162 := (r16u105.out 2 _ rfl).1
          have lr16 := cell_lt cr160
          go_wp2_with fail
          obtain ⟨V106, hV106⟩ : ∃ V106, V106 = u105 := ⟨_, rfl⟩
          rw [← hV106]
          have kV106 : Kept u105 V106 := by rw [hV106]; exact Kept.refl _
          have r5V106 := Lib.hid (r5u105.out.kept kV106)
          clear r5u105
          have r6V106 := Lib.hid (r6u105.out.kept kV106)
          clear r6u105
          have r7V106 := Lib.hid (r7u105.out.kept kV106)
          clear r7u105
          have r11V106 := Lib.hid (r11u105.out.kept kV106)
          clear r11u105
          have r12V106 := Lib.hid (r12u105.out.kept kV106)
          clear r12u105
          have r14V106 := Lib.hid (r14u105.out.kept kV106)
          clear r14u105
          have r16V106 := Lib.hid (r16u105.out.kept kV106)
          clear r16u105
          have kwV106 := Lib.hid (kwu105.out.trans kV106)
          clear hV106 kV106
          clear cr50 cr51 lr5 cr60 cr61 lr6 cr70 cr71 cr72 cr73 cr74 lr7 cr110 cr111 cr112 cr113 cr114 lr11 cr120 cr121 cr122 lr12 cr140 cr141 cr142 lr14 cr160 cr161 cr162 lr16
          have cr50 := (r5V106.out 0 _ rfl).1
          have cr51 := (r5V106.out 1 _ rfl).1
          have lr5 := cell_lt cr50
          have cr60 := (r6V106.out 0 _ rfl).1
          have cr61 := (r6V106.out 1 _ rfl).1
          have lr6 := cell_lt cr60
          have cr70 := (r7V106.out 0 _ rfl).1
          have cr71 := (r7V106.out 1 _ rfl).1
          have cr72 := (r7V106.out 2 _ rfl).1
          have cr73 := (r7V106.out 3 _ rfl).1
          have cr74 := (r7V106.out 4 _ rfl).1
          have lr7 := cell_lt cr70
          have cr110 := (r11V106.out 0 _ rfl).1
          have cr111 := (r11V106.out 1 _ rfl).1
          have cr112 := (r11V106.out 2 _ rfl).1
          have cr113 := (r11V106.out 3 _ rfl).1
          have cr114 := (r11V106.out 4 _ rfl).1
          have lr11 := cell_lt cr110
          have cr120 := (r12V106.out 0 _ rfl).1
          have cr121 := (r12V106.out 1 _ rfl).1
          have cr122 := (r12V106.out 2 _ rfl).1
          have lr12 := cell_lt cr120
          have cr140 := (r14V106.out 0 _ rfl).1
          have cr141 := (r14V106.out 1 _ rfl).1
          have cr142 := (r14V106.out 2 _ rfl).1
          have lr14 := cell_lt cr140
          have cr160 := (r16V106.out 0 _ rfl).1
          have cr161 := (r16V106.out 1 _ rfl).1
          have cr162 := (r16V106.out 2 _ rfl).1
          have lr16 := cell_lt cr160
          refine (HY.out _).mono ?_
          rintro e u106 ⟨rfl, hk106⟩
          have r5u106 := Lib.hid (r5V106.out.kept hk106)
          clear r5V106
          have r6u106 := Lib.hid (r6V106.out.kept hk106)
          clear r6V106
          have r7u106 := Lib.hid (r7V106.out.kept hk106)
          clear r7V106
          have r11u106 := Lib.hid (r11V106.out.kept hk106)
          clear r11V106
          have r12u106 := Lib.hid (r12V106.out.kept hk106)
          clear r12V106
          have r14u106 := Lib.hid (r14V106.out.kept hk106)
          clear r14V106
          have r16u106 := Lib.hid (r16V106.out.kept hk106)
          clear r16V106
          have kwu106 := Lib.hid (kwV106.out.trans hk106)
          clear hk106
          clear cr50 cr51 lr5 cr60 cr61 lr6 cr70 cr71 cr72 cr73 cr74 lr7 cr110 cr111 cr112 cr113 cr114 lr11 cr120 cr121 cr122 lr12 cr140 cr141 cr142 lr14 cr160 cr161 cr162 lr16
          have cr50 := (r5u106.out 0 _ rfl).1
          have cr51 := (r5u106.out 1 _ rfl).1
          have lr5 := cell_lt cr50
          have cr60 := (r6u106.out 0 _ rfl).1
          have cr61 := (r6u106.out 1 _ rfl).1
          have lr6 := cell_lt cr60
          have cr70 := (r7u106.out 0 _ rfl).1
          have cr71 := (r7u106.out 1 _ rfl).1
          have cr72 := (r7u106.out 2 _ rfl).1
          have cr73 := (r7u106.out 3 _ rfl).1
          have cr74 := (r7u106.out 4 _ rfl).1
          have lr7 := cell_lt cr70
          have cr110 := (r11u106.out 0 _ rfl).1
          have cr111 := (r11u106.out 1 _ rfl).1
          have cr112 := (r11u106.out 2 _ rfl).1
          have cr113 := (r11u106.out 3 _ rfl).1
          have cr114 := (r11u106.out 4 _ rfl).1
          have lr11 := cell_lt cr110
          have cr120 := (r12u106.out 0 _ rfl).1
          have cr121 := (r12u106.out 1 _ rfl).1
          have cr122 := (r12u106.out 2 _ rfl).1
          have lr12 := cell_lt cr120
          have cr140 := (r14u106.out 0 _ rfl).1
          have cr141 := (r14u106.out 1 _ rfl).1
          have cr142 := (r14u106.out 2 _ rfl).1
          have lr14 := cell_lt cr140
          have cr160 := (r16u106.out 0 _ rfl).1
          have cr161 := (r16u106.out 1 _ rfl).1
          have cr162 := (r16u106.out 2 _ rfl).1
          have lr16 := cell_lt cr160
          go_wp2_with fail
          obtain ⟨V107, hV107⟩ : ∃ V107, V107 = u106 := ⟨_, rfl⟩
          rw [← hV107]
          have kV107 : Kept u106 V107 := by rw [hV107]; exact Kept.refl _
          have r5V107 := Lib.hid (r5u106.out.kept kV107)
          clear r5u106
          have r6V107 := Lib.hid (r6u106.out.kept kV107)
          clear r6u106
          have r7V107 := Lib.hid (r7u106.out.kept kV107)
          clear r7u106
          have r11V107 := Lib.hid (r11u106.out.kept kV107)
          clear r11u106
          have r12V107 := Lib.hid (r12u106.out.kept kV107)
          clear r12u106
          have r14V107 := Lib.hid (r14u106.out.kept kV107)
          clear r14u106
          have r16V107 := Lib.hid (r16u106.out.kept kV107)
          clear r16u106
          have kwV107 := Lib.hid (kwu106.out.trans kV107)
          clear hV107 kV107
          clear cr50 cr51 lr5 cr60 cr61 lr6 cr70 cr71 cr72 cr73 cr74 lr7 cr110 cr111 cr112 cr113 cr114 lr11 cr120 cr121 cr122 lr12 cr140 cr141 cr142 lr14 cr160 cr161 cr162 lr16
          have cr50 := (r5V107.out 0 _ rfl).1
          have cr51 := (r5V107.out 1 _ rfl).1
          have lr5 := cell_lt cr50
          have cr60 := (r6V107.out 0 _ rfl).1
          have cr61 := (r6V107.out 1 _ rfl).1
          have lr6 := cell_lt cr60
          have cr70 := (r7V107.out 0 _ rfl).1
          have cr71 := (r7V107.out 1 _ rfl).1
          have cr72 := (r7V107.out 2 _ rfl).1
          have cr73 := (r7V107.out 3 _ rfl).1
          have cr74 := (r7V107.out 4 _ rfl).1
          have lr7 := cell_lt cr70
          have cr110 := (r11V107.out 0 _ rfl).1
          have cr111 := (r11V107.out 1 _ rfl).1
          have cr112 := (r11V107.out 2 _ rfl).1
          have cr113 := (r11V107.out 3 _ rfl).1
          have cr114 := (r11V107.out 4 _ rfl).1
          have lr11 := cell_lt cr110
          have cr120 := (r12V107.out 0 _ rfl).1
          have cr121 := (r12V107.out 1 _ rfl).1
          have cr122 := (r12V107.out 2 _ rfl).1
          have lr12 := cell_lt cr120
          have cr140 := (r14V107.out 0 _ rfl).1
          have cr141 := (r14V107.out 1 _ rfl).1
          have cr142 := (r14V107.out 2 _ rfl).1
          have lr14 := cell_lt cr140
          have cr160 := (r16V107.out 0 _ rfl).1
          have cr161 := (r16V107.out 1 _ rfl).1
          have cr162 := (r16V107.out 2 _ rfl).1
          have lr16 := cell_lt cr160
          refine (HZ.out _).mono ?_
          rintro e u107 ⟨rfl, hk107⟩
          have r5u107 := Lib.hid (r5V107.out.kept hk107)
          clear r5V107
          have r6u107 := Lib.hid (r6V107.out.kept hk107)
          clear r6V107
          have r7u107 := Lib.hid (r7V107.out.kept hk107)
          clear r7V107
          have r11u107 := Lib.hid (r11V107.out.kept hk107)
          clear r11V107
          have r12u107 := Lib.hid (r12V107.out.kept hk107)
          clear r12V107
          have r14u107 := Lib.hid (r14V107.out.kept hk107)
          clear r14V107
          have r16u107 := Lib.hid (r16V107.out.kept hk107)
          clear r16V107
          have kwu107 := Lib.hid (kwV107.out.trans hk107)
          clear hk107
          clear cr50 cr51 lr5 cr60 cr61 lr6 cr70 cr71 cr72 cr73 cr74 lr7 cr110 cr111 cr112 cr113 cr114 lr11 cr120 cr121 cr122 lr12 cr140 cr141 cr142 lr14 cr160 cr161 cr162 lr16
          have cr50 := (r5u107.out 0 _ rfl).1
          have cr51 := (r5u107.out 1 _ rfl).1
          have lr5 := cell_lt cr50
          have cr60 := (r6u107.out 0 _ rfl).1
          have cr61 := (r6u107.out 1 _ rfl).1
          have lr6 := cell_lt cr60
          have cr70 := (r7u107.out 0 _ rfl).1
          have cr71 := (r7u107.out 1 _ rfl).1
          have cr72 := (r7u107.out 2 _ rfl).1
          have cr73 := (r7u107.out 3 _ rfl).1
          have cr74 := (r7u107.out 4 _ rfl).1
          have lr7 := cell_lt cr70
          have cr110 := (r11u107.out 0 _ rfl).1
          have cr111 := (r11u107.out 1 _ rfl).1
          have cr112 := (r11u107.out 2 _ rfl).1
          have cr113 := (r11u107.out 3 _ rfl).1
          have cr114 := (r11u107.out 4 _ rfl).1
          have lr11 := cell_lt cr110
          have cr120 := (r12u107.out 0 _ rfl).1
          have cr121 := (r12u107.out 1 _ rfl).1
          have cr122 := (r12u107.out 2 _ rfl).1
          have lr12 := cell_lt cr120
          have cr140 := (r14u107.out 0 _ rfl).1
          have cr141 := (r14u107.out 1 _ rfl).1
          have cr142 := (r14u107.out 2 _ rfl).1
          have lr14 := cell_lt cr140
          have cr160 := (r16u107.out 0 _ rfl).1
          have cr161 := (r16u107.out 1 _ rfl).1
          have cr162 := (r16u107.out 2 _ rfl).1
          have lr16 := cell_lt cr160
          go_wp2
          go_ret
          exact ⟨rfl, kwu107.out⟩
  · have HUW : RowKit.Hid (10000 = min 10000 sm) := Lib.hid (by omega)
    obtain ⟨x1, x2, x3, hx⟩ : ∃ x1 x2 x3, ocI m d i dy s nu x = (x1, x2, x3) := ⟨_, _, _, rfl⟩
    obtain ⟨y1, y2, y3, hy⟩ : ∃ y1 y2 y3, ocI m2 d2 i dy s nu x = (y1, y2, y3) := ⟨_, _, _, rfl⟩
    obtain ⟨z1, z2, z3, hz⟩ : ∃ z1 z2 z3, ocI m d i dy s nu 10000 = (z1, z2, z3) := ⟨_, _, _, rfl⟩
    obtain ⟨ok, hok⟩ : ∃ ok, ok = ocOk m d i dy s nu x := ⟨_, rfl⟩
    obtain ⟨oz, hoz⟩ : ∃ oz, oz = ocOk m d i dy s nu 10000 := ⟨_, rfl⟩
    have H1 : RowKit.Hid (∀ W, Calls Try.prog 26 #[.agg #[.int .i64 m, .int .i64 d], .agg #[.int .i64 i, .int .i64 dy, .int .i64 s, .int .i64 nu, .int .i64 x]] W fun e w' => e = .returned (.tuple #[.agg #[.int .i64 x1, .int .i64 x2, .bool x3], .int .i64 (errI ok)]) ∧ Kept W w') := Lib.hid (fun W => by have := ofCount_any m d i dy s nu x W; rw [hx] at this; rw [hok]; exact this)
    have H2 : RowKit.Hid (∀ W, Calls Try.prog 26 #[.agg #[.int .i64 m2, .int .i64 d2], .agg #[.int .i64 i, .int .i64 dy, .int .i64 s, .int .i64 nu, .int .i64 x]] W fun e w' => e = .returned (.tuple #[.agg #[.int .i64 y1, .int .i64 y2, .bool y3], .int .i64 (errI ok)]) ∧ Kept W w') := Lib.hid (fun W => by have := ofCount_any m2 d2 i dy s nu x W; rw [hy, nar_ok HNA.out.symm] at this; rw [hok]; exact this)
    have H3 : RowKit.Hid (∀ W, Calls Try.prog 26 #[.agg #[.int .i64 m, .int .i64 d], .agg #[.int .i64 i, .int .i64 dy, .int .i64 s, .int .i64 nu, .int .i64 10000]] W fun e w' => e = .returned (.tuple #[.agg #[.int .i64 z1, .int .i64 z2, .bool z3], .int .i64 (errI oz)]) ∧ Kept W w') := Lib.hid (fun W => by have := ofCount_any m d i dy s nu 10000 W; rw [hz] at this; rw [hoz]; exact this)
    have HIN : RowKit.Hid (ok = true → oz = true → inI x1 x2 x3 n = true → inI y1 y2 y3 n = true ∧ inI z1 z2 z3 n = true) := Lib.hid (fun h1 h2 h3 => by
      have hb := (countB_bd (i := i) (dy := dy) (s := s) (n := nu) (x := x) (by rw [hok] at h1; unfold ocOk at h1; rw [Bool.and_eq_true] at h1; exact h1.2)).2
      have hw : IntKind.i64.wrap (x + more) = x + more := IntWalk.i64_in _ (by omega)
      have hle : x ≤ 10000 := by have e1 := HUW.out; have e2 := HSM.out; rw [hw] at e2; omega
      have := oc_narrow HNA.out.symm HNB.out.symm (by rw [← hok]; exact h1) (by rw [← hoz]; exact h2) hle (n := n) (by rw [hx]; exact h3)
      rw [hy, hz] at this
      exact this)
    obtain ⟨ix, hix⟩ : ∃ ix, ix = inI x1 x2 x3 n := ⟨_, rfl⟩
    obtain ⟨iy, hiy⟩ : ∃ iy, iy = inI y1 y2 y3 n := ⟨_, rfl⟩
    obtain ⟨iz, hiz⟩ : ∃ iz, iz = inI z1 z2 z3 n := ⟨_, rfl⟩
    have HX : RowKit.Hid (∀ W, Calls Try.prog 58 #[.agg #[.int .i64 x1, .int .i64 x2, .bool x3], .int .i64 n] W fun e w' => e = .returned (.bool ix) ∧ Kept W w') := Lib.hid (fun W => by rw [hix]; exact in_any x1 x2 n x3 W)
    have HY : RowKit.Hid (∀ W, Calls Try.prog 58 #[.agg #[.int .i64 y1, .int .i64 y2, .bool y3], .int .i64 n] W fun e w' => e = .returned (.bool iy) ∧ Kept W w') := Lib.hid (fun W => by rw [hiy]; exact in_any y1 y2 n y3 W)
    have HZ : RowKit.Hid (∀ W, Calls Try.prog 58 #[.agg #[.int .i64 z1, .int .i64 z2, .bool z3], .int .i64 n] W fun e w' => e = .returned (.bool iz) ∧ Kept W w') := Lib.hid (fun W => by rw [hiz]; exact in_any z1 z2 n z3 W)
    rw [← hix, ← hiy, ← hiz] at HIN
    clear hx hy hz hok hoz hix hiy hiz
    cases ok
    · rw [errI_false] at H1 H2
      go_enter Try.func11, Try.ntmps11
      go_upto_region 1 with (fail)
      rw [← HW.out]
      go_upto_region 3 with (first
        | (go_at_call 55; refine (HN.out _).mono ?_; rintro e w1 ⟨rfl, hk⟩; replace kk := (by first | with_reducible exact kk.trans hk | with_reducible exact (kk.alloc _).trans hk | with_reducible exact kk.drew.trans hk | with_reducible exact (kk.drew.alloc _).trans hk | with_reducible exact (kk.alloc _).drew.trans hk | with_reducible exact ((kk.alloc _).alloc _).trans hk | with_reducible exact ((kk.drew.alloc _).alloc _).trans hk | fail); obtain ⟨c00, c01, c10, c11, c20, c21, c22, c23, c24⟩ := BR.out _ kk; have b0 := cell_lt c00; have b1 := cell_lt c10; have b2 := cell_lt c20)
        | (go_at_call 57; refine (HL.out _).mono ?_; rintro e w1 ⟨rfl, hk⟩; replace kk := kk.trans hk; obtain ⟨c00, c01, c10, c11, c20, c21, c22, c23, c24⟩ := BR.out _ kk)
        | (go_at_call 30; refine (counted_any _).mono ?_; rintro e w1 ⟨rfl, hk⟩; replace kk := (by first | with_reducible exact kk.trans hk | with_reducible exact (kk.alloc _).trans hk | with_reducible exact kk.drew.trans hk | with_reducible exact (kk.drew.alloc _).trans hk | with_reducible exact (kk.alloc _).drew.trans hk | with_reducible exact ((kk.alloc _).alloc _).trans hk | with_reducible exact ((kk.drew.alloc _).alloc _).trans hk | fail); obtain ⟨c00, c01, c10, c11, c20, c21, c22, c23, c24⟩ := BR.out _ kk; have b0 := cell_lt c00; have b1 := cell_lt c10; have b2 := cell_lt c20)
        | fail)
      rename World => wk
      have kwwk := Lib.hid (K0.out.trans kk)
      have r5wk : RowKit.Hid (RowC wk w.heap.size [.int .i64 m, .int .i64 d]) := Lib.hid ((show RowC W0 _ _ by rw [HW.out]; exact (RowC.new _ _ 23).kept (((Kept.refl _).alloc _).alloc _)).kept kk)
      have r6wk : RowKit.Hid (RowC wk (w.heap.size + 1) [.int .i64 m2, .int .i64 d2]) := Lib.hid ((show RowC W0 _ _ by rw [HW.out]; exact (RowC.atn (vs := [.int .i64 m2, .int .i64 d2]) (by simp)).kept ((Kept.refl _).alloc _)).kept kk)
      have r7wk : RowKit.Hid (RowC wk (w.heap.size + 1 + 1) [.int .i64 i, .int .i64 dy, .int .i64 s, .int .i64 nu, .int .i64 x]) := Lib.hid ((show RowC W0 _ _ by rw [HW.out]; exact RowC.atn (vs := [.int .i64 i, .int .i64 dy, .int .i64 s, .int .i64 nu, .int .i64 x]) (by simp)).kept kk)
      clear kk c00 c01 c10 c11 c20 c21 c22 c23 c24 b0 b1 b2
      have cr50 := (r5wk.out 0 _ rfl).1
      have cr51 := (r5wk.out 1 _ rfl).1
      have lr5 := cell_lt cr50
      have cr60 := (r6wk.out 0 _ rfl).1
      have cr61 := (r6wk.out 1 _ rfl).1
      have lr6 := cell_lt cr60
      have cr70 := (r7wk.out 0 _ rfl).1
      have cr71 := (r7wk.out 1 _ rfl).1
      have cr72 := (r7wk.out 2 _ rfl).1
      have cr73 := (r7wk.out 3 _ rfl).1
      have cr74 := (r7wk.out 4 _ rfl).1
      have lr7 := cell_lt cr70
      go_wp2_with fail
      obtain ⟨V101, hV101⟩ : ∃ V101, V101 = wk.alloc (.cells #[.int .i64 i, .int .i64 dy, .int .i64 s, .int .i64 nu, .int .i64 10000] 25) := ⟨_, rfl⟩
      rw [← hV101]
      have kV101 : Kept wk V101 := by rw [hV101]; exact (Kept.refl _).alloc _
      have r5V101 := Lib.hid (r5wk.out.kept kV101)
      clear r5wk
      have r6V101 := Lib.hid (r6wk.out.kept kV101)
      clear r6wk
      have r7V101 := Lib.hid (r7wk.out.kept kV101)
      clear r7wk
      have r11V101 : RowKit.Hid (RowC V101 (wk.heap.size) [.int .i64 i, .int .i64 dy, .int .i64 s, .int .i64 nu, .int .i64 10000]) := Lib.hid (by rw [hV101]; exact (RowC.new _ _ 25))
      have kwV101 := Lib.hid (kwwk.out.trans kV101)
      clear hV101 kV101
      clear cr50 cr51 lr5 cr60 cr61 lr6 cr70 cr71 cr72 cr73 cr74 lr7
      have cr50 := (r5V101.out 0 _ rfl).1
      have cr51 := (r5V101.out 1 _ rfl).1
      have lr5 := cell_lt cr50
      have cr60 := (r6V101.out 0 _ rfl).1
      have cr61 := (r6V101.out 1 _ rfl).1
      have lr6 := cell_lt cr60
      have cr70 := (r7V101.out 0 _ rfl).1
      have cr71 := (r7V101.out 1 _ rfl).1
      have cr72 := (r7V101.out 2 _ rfl).1
      have cr73 := (r7V101.out 3 _ rfl).1
      have cr74 := (r7V101.out 4 _ rfl).1
      have lr7 := cell_lt cr70
      have cr110 := (r11V101.out 0 _ rfl).1
      have cr111 := (r11V101.out 1 _ rfl).1
      have cr112 := (r11V101.out 2 _ rfl).1
      have cr113 := (r11V101.out 3 _ rfl).1
      have cr114 := (r11V101.out 4 _ rfl).1
      have lr11 := cell_lt cr110
      refine (H1.out _).mono ?_
      rintro e u101 ⟨rfl, hk101⟩
      have r5u101 := Lib.hid (r5V101.out.kept hk101)
      clear r5V101
      have r6u101 := Lib.hid (r6V101.out.kept hk101)
      clear r6V101
      have r7u101 := Lib.hid (r7V101.out.kept hk101)
      clear r7V101
      have r11u101 := Lib.hid (r11V101.out.kept hk101)
      clear r11V101
      have kwu101 := Lib.hid (kwV101.out.trans hk101)
      clear hk101
      clear cr50 cr51 lr5 cr60 cr61 lr6 cr70 cr71 cr72 cr73 cr74 lr7 cr110 cr111 cr112 cr113 cr114 lr11
      have cr50 := (r5u101.out 0 _ rfl).1
      have cr51 := (r5u101.out 1 _ rfl).1
      have lr5 := cell_lt cr50
      have cr60 := (r6u101.out 0 _ rfl).1
      have cr61 := (r6u101.out 1 _ rfl).1
      have lr6 := cell_lt cr60
      have cr70 := (r7u101.out 0 _ rfl).1
      have cr71 := (r7u101.out 1 _ rfl).1
      have cr72 := (r7u101.out 2 _ rfl).1
      have cr73 := (r7u101.out 3 _ rfl).1
      have cr74 := (r7u101.out 4 _ rfl).1
      have lr7 := cell_lt cr70
      have cr110 := (r11u101.out 0 _ rfl).1
      have cr111 := (r11u101.out 1 _ rfl).1
      have cr112 := (r11u101.out 2 _ rfl).1
      have cr113 := (r11u101.out 3 _ rfl).1
      have cr114 := (r11u101.out 4 _ rfl).1
      have lr11 := cell_lt cr110
      go_wp2_with fail
      obtain ⟨V102, hV102⟩ : ∃ V102, V102 = u101.alloc (.cells #[.int .i64 x1, .int .i64 x2, .bool x3] 34) := ⟨_, rfl⟩
      rw [← hV102]
      have kV102 : Kept u101 V102 := by rw [hV102]; exact (Kept.refl _).alloc _
      have r5V102 := Lib.hid (r5u101.out.kept kV102)
      clear r5u101
      have r6V102 := Lib.hid (r6u101.out.kept kV102)
      clear r6u101
      have r7V102 := Lib.hid (r7u101.out.kept kV102)
      clear r7u101
      have r11V102 := Lib.hid (r11u101.out.kept kV102)
      clear r11u101
      have r12V102 : RowKit.Hid (RowC V102 (u101.heap.size) [.int .i64 x1, .int .i64 x2, .bool x3]) := Lib.hid (by rw [hV102]; exact (RowC.new _ _ 34))
      have kwV102 := Lib.hid (kwu101.out.trans kV102)
      clear hV102 kV102
      clear cr50 cr51 lr5 cr60 cr61 lr6 cr70 cr71 cr72 cr73 cr74 lr7 cr110 cr111 cr112 cr113 cr114 lr11
      have cr50 := (r5V102.out 0 _ rfl).1
      have cr51 := (r5V102.out 1 _ rfl).1
      have lr5 := cell_lt cr50
      have cr60 := (r6V102.out 0 _ rfl).1
      have cr61 := (r6V102.out 1 _ rfl).1
      have lr6 := cell_lt cr60
      have cr70 := (r7V102.out 0 _ rfl).1
      have cr71 := (r7V102.out 1 _ rfl).1
      have cr72 := (r7V102.out 2 _ rfl).1
      have cr73 := (r7V102.out 3 _ rfl).1
      have cr74 := (r7V102.out 4 _ rfl).1
      have lr7 := cell_lt cr70
      have cr110 := (r11V102.out 0 _ rfl).1
      have cr111 := (r11V102.out 1 _ rfl).1
      have cr112 := (r11V102.out 2 _ rfl).1
      have cr113 := (r11V102.out 3 _ rfl).1
      have cr114 := (r11V102.out 4 _ rfl).1
      have lr11 := cell_lt cr110
      have cr120 := (r12V102.out 0 _ rfl).1
      have cr121 := (r12V102.out 1 _ rfl).1
      have cr122 := (r12V102.out 2 _ rfl).1
      have lr12 := cell_lt cr120
      refine (H2.out _).mono ?_
      rintro e u102 ⟨rfl, hk102⟩
      have r5u102 := Lib.hid (r5V102.out.kept hk102)
      clear r5V102
      have r6u102 := Lib.hid (r6V102.out.kept hk102)
      clear r6V102
      have r7u102 := Lib.hid (r7V102.out.kept hk102)
      clear r7V102
      have r11u102 := Lib.hid (r11V102.out.kept hk102)
      clear r11V102
      have r12u102 := Lib.hid (r12V102.out.kept hk102)
      clear r12V102
      have kwu102 := Lib.hid (kwV102.out.trans hk102)
      clear hk102
      clear cr50 cr51 lr5 cr60 cr61 lr6 cr70 cr71 cr72 cr73 cr74 lr7 cr110 cr111 cr112 cr113 cr114 lr11 cr120 cr121 cr122 lr12
      have cr50 := (r5u102.out 0 _ rfl).1
      have cr51 := (r5u102.out 1 _ rfl).1
      have lr5 := cell_lt cr50
      have cr60 := (r6u102.out 0 _ rfl).1
      have cr61 := (r6u102.out 1 _ rfl).1
      have lr6 := cell_lt cr60
      have cr70 := (r7u102.out 0 _ rfl).1
      have cr71 := (r7u102.out 1 _ rfl).1
      have cr72 := (r7u102.out 2 _ rfl).1
      have cr73 := (r7u102.out 3 _ rfl).1
      have cr74 := (r7u102.out 4 _ rfl).1
      have lr7 := cell_lt cr70
      have cr110 := (r11u102.out 0 _ rfl).1
      have cr111 := (r11u102.out 1 _ rfl).1
      have cr112 := (r11u102.out 2 _ rfl).1
      have cr113 := (r11u102.out 3 _ rfl).1
      have cr114 := (r11u102.out 4 _ rfl).1
      have lr11 := cell_lt cr110
      have cr120 := (r12u102.out 0 _ rfl).1
      have cr121 := (r12u102.out 1 _ rfl).1
      have cr122 := (r12u102.out 2 _ rfl).1
      have lr12 := cell_lt cr120
      go_wp2_with fail
      obtain ⟨V103, hV103⟩ : ∃ V103, V103 = u102.alloc (.cells #[.int .i64 y1, .int .i64 y2, .bool y3] 34) := ⟨_, rfl⟩
      rw [← hV103]
      have kV103 : Kept u102 V103 := by rw [hV103]; exact (Kept.refl _).alloc _
      have r5V103 := Lib.hid (r5u102.out.kept kV103)
      clear r5u102
      have r6V103 := Lib.hid (r6u102.out.kept kV103)
      clear r6u102
      have r7V103 := Lib.hid (r7u102.out.kept kV103)
      clear r7u102
      have r11V103 := Lib.hid (r11u102.out.kept kV103)
      clear r11u102
      have r12V103 := Lib.hid (r12u102.out.kept kV103)
      clear r12u102
      have r14V103 : RowKit.Hid (RowC V103 (u102.heap.size) [.int .i64 y1, .int .i64 y2, .bool y3]) := Lib.hid (by rw [hV103]; exact (RowC.new _ _ 34))
      have kwV103 := Lib.hid (kwu102.out.trans kV103)
      clear hV103 kV103
      clear cr50 cr51 lr5 cr60 cr61 lr6 cr70 cr71 cr72 cr73 cr74 lr7 cr110 cr111 cr112 cr113 cr114 lr11 cr120 cr121 cr122 lr12
      have cr50 := (r5V103.out 0 _ rfl).1
      have cr51 := (r5V103.out 1 _ rfl).1
      have lr5 := cell_lt cr50
      have cr60 := (r6V103.out 0 _ rfl).1
      have cr61 := (r6V103.out 1 _ rfl).1
      have lr6 := cell_lt cr60
      have cr70 := (r7V103.out 0 _ rfl).1
      have cr71 := (r7V103.out 1 _ rfl).1
      have cr72 := (r7V103.out 2 _ rfl).1
      have cr73 := (r7V103.out 3 _ rfl).1
      have cr74 := (r7V103.out 4 _ rfl).1
      have lr7 := cell_lt cr70
      have cr110 := (r11V103.out 0 _ rfl).1
      have cr111 := (r11V103.out 1 _ rfl).1
      have cr112 := (r11V103.out 2 _ rfl).1
      have cr113 := (r11V103.out 3 _ rfl).1
      have cr114 := (r11V103.out 4 _ rfl).1
      have lr11 := cell_lt cr110
      have cr120 := (r12V103.out 0 _ rfl).1
      have cr121 := (r12V103.out 1 _ rfl).1
      have cr122 := (r12V103.out 2 _ rfl).1
      have lr12 := cell_lt cr120
      have cr140 := (r14V103.out 0 _ rfl).1
      have cr141 := (r14V103.out 1 _ rfl).1
      have cr142 := (r14V103.out 2 _ rfl).1
      have lr14 := cell_lt cr140
      refine (H3.out _).mono ?_
      rintro e u103 ⟨rfl, hk103⟩
      have r5u103 := Lib.hid (r5V103.out.kept hk103)
      clear r5V103
      have r6u103 := Lib.hid (r6V103.out.kept hk103)
      clear r6V103
      have r7u103 := Lib.hid (r7V103.out.kept hk103)
      clear r7V103
      have r11u103 := Lib.hid (r11V103.out.kept hk103)
      clear r11V103
      have r12u103 := Lib.hid (r12V103.out.kept hk103)
      clear r12V103
      have r14u103 := Lib.hid (r14V103.out.kept hk103)
      clear r14V103
      have kwu103 := Lib.hid (kwV103.out.trans hk103)
      clear hk103
      clear cr50 cr51 lr5 cr60 cr61 lr6 cr70 cr71 cr72 cr73 cr74 lr7 cr110 cr111 cr112 cr113 cr114 lr11 cr120 cr121 cr122 lr12 cr140 cr141 cr142 lr14
      have cr50 := (r5u103.out 0 _ rfl).1
      have cr51 := (r5u103.out 1 _ rfl).1
      have lr5 := cell_lt cr50
      have cr60 := (r6u103.out 0 _ rfl).1
      have cr61 := (r6u103.out 1 _ rfl).1
      have lr6 := cell_lt cr60
      have cr70 := (r7u103.out 0 _ rfl).1
      have cr71 := (r7u103.out 1 _ rfl).1
      have cr72 := (r7u103.out 2 _ rfl).1
      have cr73 := (r7u103.out 3 _ rfl).1
      have cr74 := (r7u103.out 4 _ rfl).1
      have lr7 := cell_lt cr70
      have cr110 := (r11u103.out 0 _ rfl).1
      have cr111 := (r11u103.out 1 _ rfl).1
      have cr112 := (r11u103.out 2 _ rfl).1
      have cr113 := (r11u103.out 3 _ rfl).1
      have cr114 := (r11u103.out 4 _ rfl).1
      have lr11 := cell_lt cr110
      have cr120 := (r12u103.out 0 _ rfl).1
      have cr121 := (r12u103.out 1 _ rfl).1
      have cr122 := (r12u103.out 2 _ rfl).1
      have lr12 := cell_lt cr120
      have cr140 := (r14u103.out 0 _ rfl).1
      have cr141 := (r14u103.out 1 _ rfl).1
      have cr142 := (r14u103.out 2 _ rfl).1
      have lr14 := cell_lt cr140
      go_wp2_with fail
      obtain ⟨V104, hV104⟩ : ∃ V104, V104 = u103.alloc (.cells #[.int .i64 z1, .int .i64 z2, .bool z3] 34) := ⟨_, rfl⟩
      rw [← hV104]
      have kV104 : Kept u103 V104 := by rw [hV104]; exact (Kept.refl _).alloc _
      have r5V104 := Lib.hid (r5u103.out.kept kV104)
      clear r5u103
      have r6V104 := Lib.hid (r6u103.out.kept kV104)
      clear r6u103
      have r7V104 := Lib.hid (r7u103.out.kept kV104)
      clear r7u103
      have r11V104 := Lib.hid (r11u103.out.kept kV104)
      clear r11u103
      have r12V104 := Lib.hid (r12u103.out.kept kV104)
      clear r12u103
      have r14V104 := Lib.hid (r14u103.out.kept kV104)
      clear r14u103
      have r16V104 : RowKit.Hid (RowC V104 (u103.heap.size) [.int .i64 z1, .int .i64 z2, .bool z3]) := Lib.hid (by rw [hV104]; exact (RowC.new _ _ 34))
      have kwV104 := Lib.hid (kwu103.out.trans kV104)
      clear hV104 kV104
      clear cr50 cr51 lr5 cr60 cr61 lr6 cr70 cr71 cr72 cr73 cr74 lr7 cr110 cr111 cr112 cr113 cr114 lr11 cr120 cr121 cr122 lr12 cr140 cr141 cr142 lr14
      have cr50 := (r5V104.out 0 _ rfl).1
      have cr51 := (r5V104.out 1 _ rfl).1
      have lr5 := cell_lt cr50
      have cr60 := (r6V104.out 0 _ rfl).1
      have cr61 := (r6V104.out 1 _ rfl).1
      have lr6 := cell_lt cr60
      have cr70 := (r7V104.out 0 _ rfl).1
      have cr71 := (r7V104.out 1 _ rfl).1
      have cr72 := (r7V104.out 2 _ rfl).1
      have cr73 := (r7V104.out 3 _ rfl).1
      have cr74 := (r7V104.out 4 _ rfl).1
      have lr7 := cell_lt cr70
      have cr110 := (r11V104.out 0 _ rfl).1
      have cr111 := (r11V104.out 1 _ rfl).1
      have cr112 := (r11V104.out 2 _ rfl).1
      have cr113 := (r11V104.out 3 _ rfl).1
      have cr114 := (r11V104.out 4 _ rfl).1
      have lr11 := cell_lt cr110
      have cr120 := (r12V104.out 0 _ rfl).1
      have cr121 := (r12V104.out 1 _ rfl).1
      have cr122 := (r12V104.out 2 _ rfl).1
      have lr12 := cell_lt cr120
      have cr140 := (r14V104.out 0 _ rfl).1
      have cr141 := (r14V104.out 1 _ rfl).1
      have cr142 := (r14V104.out 2 _ rfl).1
      have lr14 := cell_lt cr140
      have cr160 := (r16V104.out 0 _ rfl).1
      have cr161 := (r16V104.out 1 _ rfl).1
      have cr162 := (r16V104.out 2 _ rfl).1
      have lr16 := cell_lt cr160
      refine (counted_any _).mono ?_
      rintro e u104 ⟨rfl, hk104⟩
      have r5u104 := Lib.hid (r5V104.out.kept hk104)
      clear r5V104
      have r6u104 := Lib.hid (r6V104.out.kept hk104)
      clear r6V104
      have r7u104 := Lib.hid (r7V104.out.kept hk104)
      clear r7V104
      have r11u104 := Lib.hid (r11V104.out.kept hk104)
      clear r11V104
      have r12u104 := Lib.hid (r12V104.out.kept hk104)
      clear r12V104
      have r14u104 := Lib.hid (r14V104.out.kept hk104)
      clear r14V104
      have r16u104 := Lib.hid (r16V104.out.kept hk104)
      clear r16V104
      have kwu104 := Lib.hid (kwV104.out.trans hk104)
      clear hk104
      clear cr50 cr51 lr5 cr60 cr61 lr6 cr70 cr71 cr72 cr73 cr74 lr7 cr110 cr111 cr112 cr113 cr114 lr11 cr120 cr121 cr122 lr12 cr140 cr141 cr142 lr14 cr160 cr161 cr162 lr16
      have cr50 := (r5u104.out 0 _ rfl).1
      have cr51 := (r5u104.out 1 _ rfl).1
      have lr5 := cell_lt cr50
      have cr60 := (r6u104.out 0 _ rfl).1
      have cr61 := (r6u104.out 1 _ rfl).1
      have lr6 := cell_lt cr60
      have cr70 := (r7u104.out 0 _ rfl).1
      have cr71 := (r7u104.out 1 _ rfl).1
      have cr72 := (r7u104.out 2 _ rfl).1
      have cr73 := (r7u104.out 3 _ rfl).1
      have cr74 := (r7u104.out 4 _ rfl).1
      have lr7 := cell_lt cr70
      have cr110 := (r11u104.out 0 _ rfl).1
      have cr111 := (r11u104.out 1 _ rfl).1
      have cr112 := (r11u104.out 2 _ rfl).1
      have cr113 := (r11u104.out 3 _ rfl).1
      have cr114 := (r11u104.out 4 _ rfl).1
      have lr11 := cell_lt cr110
      have cr120 := (r12u104.out 0 _ rfl).1
      have cr121 := (r12u104.out 1 _ rfl).1
      have cr122 := (r12u104.out 2 _ rfl).1
      have lr12 := cell_lt cr120
      have cr140 := (r14u104.out 0 _ rfl).1
      have cr141 := (r14u104.out 1 _ rfl).1
      have cr142 := (r14u104.out 2 _ rfl).1
      have lr14 := cell_lt cr140
      have cr160 := (r16u104.out 0 _ rfl).1
      have cr161 := (r16u104.out 1 _ rfl).1
      have cr162 := (r16u104.out 2 _ rfl).1
      have lr16 := cell_lt cr160
      go_wp2
      go_ret
      exact ⟨rfl, kwu104.out⟩
    · rw [errI_true] at H1 H2
      cases oz
      · rw [errI_false] at H3
        go_enter Try.func11, Try.ntmps11
        go_upto_region 1 with (fail)
        rw [← HW.out]
        go_upto_region 3 with (first
        | (go_at_call 55; refine (HN.out _).mono ?_; rintro e w1 ⟨rfl, hk⟩; replace kk := (by first | with_reducible exact kk.trans hk | with_reducible exact (kk.alloc _).trans hk | with_reducible exact kk.drew.trans hk | with_reducible exact (kk.drew.alloc _).trans hk | with_reducible exact (kk.alloc _).drew.trans hk | with_reducible exact ((kk.alloc _).alloc _).trans hk | with_reducible exact ((kk.drew.alloc _).alloc _).trans hk | fail); obtain ⟨c00, c01, c10, c11, c20, c21, c22, c23, c24⟩ := BR.out _ kk; have b0 := cell_lt c00; have b1 := cell_lt c10; have b2 := cell_lt c20)
        | (go_at_call 57; refine (HL.out _).mono ?_; rintro e w1 ⟨rfl, hk⟩; replace kk := kk.trans hk; obtain ⟨c00, c01, c10, c11, c20, c21, c22, c23, c24⟩ := BR.out _ kk)
        | (go_at_call 30; refine (counted_any _).mono ?_; rintro e w1 ⟨rfl, hk⟩; replace kk := (by first | with_reducible exact kk.trans hk | with_reducible exact (kk.alloc _).trans hk | with_reducible exact kk.drew.trans hk | with_reducible exact (kk.drew.alloc _).trans hk | with_reducible exact (kk.alloc _).drew.trans hk | with_reducible exact ((kk.alloc _).alloc _).trans hk | with_reducible exact ((kk.drew.alloc _).alloc _).trans hk | fail); obtain ⟨c00, c01, c10, c11, c20, c21, c22, c23, c24⟩ := BR.out _ kk; have b0 := cell_lt c00; have b1 := cell_lt c10; have b2 := cell_lt c20)
        | fail)
        rename World => wk
        have kwwk := Lib.hid (K0.out.trans kk)
        have r5wk : RowKit.Hid (RowC wk w.heap.size [.int .i64 m, .int .i64 d]) := Lib.hid ((show RowC W0 _ _ by rw [HW.out]; exact (RowC.new _ _ 23).kept (((Kept.refl _).alloc _).alloc _)).kept kk)
        have r6wk : RowKit.Hid (RowC wk (w.heap.size + 1) [.int .i64 m2, .int .i64 d2]) := Lib.hid ((show RowC W0 _ _ by rw [HW.out]; exact (RowC.atn (vs := [.int .i64 m2, .int .i64 d2]) (by simp)).kept ((Kept.refl _).alloc _)).kept kk)
        have r7wk : RowKit.Hid (RowC wk (w.heap.size + 1 + 1) [.int .i64 i, .int .i64 dy, .int .i64 s, .int .i64 nu, .int .i64 x]) := Lib.hid ((show RowC W0 _ _ by rw [HW.out]; exact RowC.atn (vs := [.int .i64 i, .int .i64 dy, .int .i64 s, .int .i64 nu, .int .i64 x]) (by simp)).kept kk)
        clear kk c00 c01 c10 c11 c20 c21 c22 c23 c24 b0 b1 b2
        have cr50 := (r5wk.out 0 _ rfl).1
        have cr51 := (r5wk.out 1 _ rfl).1
        have lr5 := cell_lt cr50
        have cr60 := (r6wk.out 0 _ rfl).1
        have cr61 := (r6wk.out 1 _ rfl).1
        have lr6 := cell_lt cr60
        have cr70 := (r7wk.out 0 _ rfl).1
        have cr71 := (r7wk.out 1 _ rfl).1
        have cr72 := (r7wk.out 2 _ rfl).1
        have cr73 := (r7wk.out 3 _ rfl).1
        have cr74 := (r7wk.out 4 _ rfl).1
        have lr7 := cell_lt cr70
        go_wp2_with fail
        obtain ⟨V101, hV101⟩ : ∃ V101, V101 = wk.alloc (.cells #[.int .i64 i, .int .i64 dy, .int .i64 s, .int .i64 nu, .int .i64 10000] 25) := ⟨_, rfl⟩
        rw [← hV101]
        have kV101 : Kept wk V101 := by rw [hV101]; exact (Kept.refl _).alloc _
        have r5V101 := Lib.hid (r5wk.out.kept kV101)
        clear r5wk
        have r6V101 := Lib.hid (r6wk.out.kept kV101)
        clear r6wk
        have r7V101 := Lib.hid (r7wk.out.kept kV101)
        clear r7wk
        have r11V101 : RowKit.Hid (RowC V101 (wk.heap.size) [.int .i64 i, .int .i64 dy, .int .i64 s, .int .i64 nu, .int .i64 10000]) := Lib.hid (by rw [hV101]; exact (RowC.new _ _ 25))
        have kwV101 := Lib.hid (kwwk.out.trans kV101)
        clear hV101 kV101
        clear cr50 cr51 lr5 cr60 cr61 lr6 cr70 cr71 cr72 cr73 cr74 lr7
        have cr50 := (r5V101.out 0 _ rfl).1
        have cr51 := (r5V101.out 1 _ rfl).1
        have lr5 := cell_lt cr50
        have cr60 := (r6V101.out 0 _ rfl).1
        have cr61 := (r6V101.out 1 _ rfl).1
        have lr6 := cell_lt cr60
        have cr70 := (r7V101.out 0 _ rfl).1
        have cr71 := (r7V101.out 1 _ rfl).1
        have cr72 := (r7V101.out 2 _ rfl).1
        have cr73 := (r7V101.out 3 _ rfl).1
        have cr74 := (r7V101.out 4 _ rfl).1
        have lr7 := cell_lt cr70
        have cr110 := (r11V101.out 0 _ rfl).1
        have cr111 := (r11V101.out 1 _ rfl).1
        have cr112 := (r11V101.out 2 _ rfl).1
        have cr113 := (r11V101.out 3 _ rfl).1
        have cr114 := (r11V101.out 4 _ rfl).1
        have lr11 := cell_lt cr110
        refine (H1.out _).mono ?_
        rintro e u101 ⟨rfl, hk101⟩
        have r5u101 := Lib.hid (r5V101.out.kept hk101)
        clear r5V101
        have r6u101 := Lib.hid (r6V101.out.kept hk101)
        clear r6V101
        have r7u101 := Lib.hid (r7V101.out.kept hk101)
        clear r7V101
        have r11u101 := Lib.hid (r11V101.out.kept hk101)
        clear r11V101
        have kwu101 := Lib.hid (kwV101.out.trans hk101)
        clear hk101
        clear cr50 cr51 lr5 cr60 cr61 lr6 cr70 cr71 cr72 cr73 cr74 lr7 cr110 cr111 cr112 cr113 cr114 lr11
        have cr50 := (r5u101.out 0 _ rfl).1
        have cr51 := (r5u101.out 1 _ rfl).1
        have lr5 := cell_lt cr50
        have cr60 := (r6u101.out 0 _ rfl).1
        have cr61 := (r6u101.out 1 _ rfl).1
        have lr6 := cell_lt cr60
        have cr70 := (r7u101.out 0 _ rfl).1
        have cr71 := (r7u101.out 1 _ rfl).1
        have cr72 := (r7u101.out 2 _ rfl).1
        have cr73 := (r7u101.out 3 _ rfl).1
        have cr74 := (r7u101.out 4 _ rfl).1
        have lr7 := cell_lt cr70
        have cr110 := (r11u101.out 0 _ rfl).1
        have cr111 := (r11u101.out 1 _ rfl).1
        have cr112 := (r11u101.out 2 _ rfl).1
        have cr113 := (r11u101.out 3 _ rfl).1
        have cr114 := (r11u101.out 4 _ rfl).1
        have lr11 := cell_lt cr110
        go_wp2_with fail
        obtain ⟨V102, hV102⟩ : ∃ V102, V102 = u101.alloc (.cells #[.int .i64 x1, .int .i64 x2, .bool x3] 34) := ⟨_, rfl⟩
        rw [← hV102]
        have kV102 : Kept u101 V102 := by rw [hV102]; exact (Kept.refl _).alloc _
        have r5V102 := Lib.hid (r5u101.out.kept kV102)
        clear r5u101
        have r6V102 := Lib.hid (r6u101.out.kept kV102)
        clear r6u101
        have r7V102 := Lib.hid (r7u101.out.kept kV102)
        clear r7u101
        have r11V102 := Lib.hid (r11u101.out.kept kV102)
        clear r11u101
        have r12V102 : RowKit.Hid (RowC V102 (u101.heap.size) [.int .i64 x1, .int .i64 x2, .bool x3]) := Lib.hid (by rw [hV102]; exact (RowC.new _ _ 34))
        have kwV102 := Lib.hid (kwu101.out.trans kV102)
        clear hV102 kV102
        clear cr50 cr51 lr5 cr60 cr61 lr6 cr70 cr71 cr72 cr73 cr74 lr7 cr110 cr111 cr112 cr113 cr114 lr11
        have cr50 := (r5V102.out 0 _ rfl).1
        have cr51 := (r5V102.out 1 _ rfl).1
        have lr5 := cell_lt cr50
        have cr60 := (r6V102.out 0 _ rfl).1
        have cr61 := (r6V102.out 1 _ rfl).1
        have lr6 := cell_lt cr60
        have cr70 := (r7V102.out 0 _ rfl).1
        have cr71 := (r7V102.out 1 _ rfl).1
        have cr72 := (r7V102.out 2 _ rfl).1
        have cr73 := (r7V102.out 3 _ rfl).1
        have cr74 := (r7V102.out 4 _ rfl).1
        have lr7 := cell_lt cr70
        have cr110 := (r11V102.out 0 _ rfl).1
        have cr111 := (r11V102.out 1 _ rfl).1
        have cr112 := (r11V102.out 2 _ rfl).1
        have cr113 := (r11V102.out 3 _ rfl).1
        have cr114 := (r11V102.out 4 _ rfl).1
        have lr11 := cell_lt cr110
        have cr120 := (r12V102.out 0 _ rfl).1
        have cr121 := (r12V102.out 1 _ rfl).1
        have cr122 := (r12V102.out 2 _ rfl).1
        have lr12 := cell_lt cr120
        refine (H2.out _).mono ?_
        rintro e u102 ⟨rfl, hk102⟩
        have r5u102 := Lib.hid (r5V102.out.kept hk102)
        clear r5V102
        have r6u102 := Lib.hid (r6V102.out.kept hk102)
        clear r6V102
        have r7u102 := Lib.hid (r7V102.out.kept hk102)
        clear r7V102
        have r11u102 := Lib.hid (r11V102.out.kept hk102)
        clear r11V102
        have r12u102 := Lib.hid (r12V102.out.kept hk102)
        clear r12V102
        have kwu102 := Lib.hid (kwV102.out.trans hk102)
        clear hk102
        clear cr50 cr51 lr5 cr60 cr61 lr6 cr70 cr71 cr72 cr73 cr74 lr7 cr110 cr111 cr112 cr113 cr114 lr11 cr120 cr121 cr122 lr12
        have cr50 := (r5u102.out 0 _ rfl).1
        have cr51 := (r5u102.out 1 _ rfl).1
        have lr5 := cell_lt cr50
        have cr60 := (r6u102.out 0 _ rfl).1
        have cr61 := (r6u102.out 1 _ rfl).1
        have lr6 := cell_lt cr60
        have cr70 := (r7u102.out 0 _ rfl).1
        have cr71 := (r7u102.out 1 _ rfl).1
        have cr72 := (r7u102.out 2 _ rfl).1
        have cr73 := (r7u102.out 3 _ rfl).1
        have cr74 := (r7u102.out 4 _ rfl).1
        have lr7 := cell_lt cr70
        have cr110 := (r11u102.out 0 _ rfl).1
        have cr111 := (r11u102.out 1 _ rfl).1
        have cr112 := (r11u102.out 2 _ rfl).1
        have cr113 := (r11u102.out 3 _ rfl).1
        have cr114 := (r11u102.out 4 _ rfl).1
        have lr11 := cell_lt cr110
        have cr120 := (r12u102.out 0 _ rfl).1
        have cr121 := (r12u102.out 1 _ rfl).1
        have cr122 := (r12u102.out 2 _ rfl).1
        have lr12 := cell_lt cr120
        go_wp2_with fail
        obtain ⟨V103, hV103⟩ : ∃ V103, V103 = u102.alloc (.cells #[.int .i64 y1, .int .i64 y2, .bool y3] 34) := ⟨_, rfl⟩
        rw [← hV103]
        have kV103 : Kept u102 V103 := by rw [hV103]; exact (Kept.refl _).alloc _
        have r5V103 := Lib.hid (r5u102.out.kept kV103)
        clear r5u102
        have r6V103 := Lib.hid (r6u102.out.kept kV103)
        clear r6u102
        have r7V103 := Lib.hid (r7u102.out.kept kV103)
        clear r7u102
        have r11V103 := Lib.hid (r11u102.out.kept kV103)
        clear r11u102
        have r12V103 := Lib.hid (r12u102.out.kept kV103)
        clear r12u102
        have r14V103 : RowKit.Hid (RowC V103 (u102.heap.size) [.int .i64 y1, .int .i64 y2, .bool y3]) := Lib.hid (by rw [hV103]; exact (RowC.new _ _ 34))
        have kwV103 := Lib.hid (kwu102.out.trans kV103)
        clear hV103 kV103
        clear cr50 cr51 lr5 cr60 cr61 lr6 cr70 cr71 cr72 cr73 cr74 lr7 cr110 cr111 cr112 cr113 cr114 lr11 cr120 cr121 cr122 lr12
        have cr50 := (r5V103.out 0 _ rfl).1
        have cr51 := (r5V103.out 1 _ rfl).1
        have lr5 := cell_lt cr50
        have cr60 := (r6V103.out 0 _ rfl).1
        have cr61 := (r6V103.out 1 _ rfl).1
        have lr6 := cell_lt cr60
        have cr70 := (r7V103.out 0 _ rfl).1
        have cr71 := (r7V103.out 1 _ rfl).1
        have cr72 := (r7V103.out 2 _ rfl).1
        have cr73 := (r7V103.out 3 _ rfl).1
        have cr74 := (r7V103.out 4 _ rfl).1
        have lr7 := cell_lt cr70
        have cr110 := (r11V103.out 0 _ rfl).1
        have cr111 := (r11V103.out 1 _ rfl).1
        have cr112 := (r11V103.out 2 _ rfl).1
        have cr113 := (r11V103.out 3 _ rfl).1
        have cr114 := (r11V103.out 4 _ rfl).1
        have lr11 := cell_lt cr110
        have cr120 := (r12V103.out 0 _ rfl).1
        have cr121 := (r12V103.out 1 _ rfl).1
        have cr122 := (r12V103.out 2 _ rfl).1
        have lr12 := cell_lt cr120
        have cr140 := (r14V103.out 0 _ rfl).1
        have cr141 := (r14V103.out 1 _ rfl).1
        have cr142 := (r14V103.out 2 _ rfl).1
        have lr14 := cell_lt cr140
        refine (H3.out _).mono ?_
        rintro e u103 ⟨rfl, hk103⟩
        have r5u103 := Lib.hid (r5V103.out.kept hk103)
        clear r5V103
        have r6u103 := Lib.hid (r6V103.out.kept hk103)
        clear r6V103
        have r7u103 := Lib.hid (r7V103.out.kept hk103)
        clear r7V103
        have r11u103 := Lib.hid (r11V103.out.kept hk103)
        clear r11V103
        have r12u103 := Lib.hid (r12V103.out.kept hk103)
        clear r12V103
        have r14u103 := Lib.hid (r14V103.out.kept hk103)
        clear r14V103
        have kwu103 := Lib.hid (kwV103.out.trans hk103)
        clear hk103
        clear cr50 cr51 lr5 cr60 cr61 lr6 cr70 cr71 cr72 cr73 cr74 lr7 cr110 cr111 cr112 cr113 cr114 lr11 cr120 cr121 cr122 lr12 cr140 cr141 cr142 lr14
        have cr50 := (r5u103.out 0 _ rfl).1
        have cr51 := (r5u103.out 1 _ rfl).1
        have lr5 := cell_lt cr50
        have cr60 := (r6u103.out 0 _ rfl).1
        have cr61 := (r6u103.out 1 _ rfl).1
        have lr6 := cell_lt cr60
        have cr70 := (r7u103.out 0 _ rfl).1
        have cr71 := (r7u103.out 1 _ rfl).1
        have cr72 := (r7u103.out 2 _ rfl).1
        have cr73 := (r7u103.out 3 _ rfl).1
        have cr74 := (r7u103.out 4 _ rfl).1
        have lr7 := cell_lt cr70
        have cr110 := (r11u103.out 0 _ rfl).1
        have cr111 := (r11u103.out 1 _ rfl).1
        have cr112 := (r11u103.out 2 _ rfl).1
        have cr113 := (r11u103.out 3 _ rfl).1
        have cr114 := (r11u103.out 4 _ rfl).1
        have lr11 := cell_lt cr110
        have cr120 := (r12u103.out 0 _ rfl).1
        have cr121 := (r12u103.out 1 _ rfl).1
        have cr122 := (r12u103.out 2 _ rfl).1
        have lr12 := cell_lt cr120
        have cr140 := (r14u103.out 0 _ rfl).1
        have cr141 := (r14u103.out 1 _ rfl).1
        have cr142 := (r14u103.out 2 _ rfl).1
        have lr14 := cell_lt cr140
        go_wp2_with fail
        obtain ⟨V104, hV104⟩ : ∃ V104, V104 = u103.alloc (.cells #[.int .i64 z1, .int .i64 z2, .bool z3] 34) := ⟨_, rfl⟩
        rw [← hV104]
        have kV104 : Kept u103 V104 := by rw [hV104]; exact (Kept.refl _).alloc _
        have r5V104 := Lib.hid (r5u103.out.kept kV104)
        clear r5u103
        have r6V104 := Lib.hid (r6u103.out.kept kV104)
        clear r6u103
        have r7V104 := Lib.hid (r7u103.out.kept kV104)
        clear r7u103
        have r11V104 := Lib.hid (r11u103.out.kept kV104)
        clear r11u103
        have r12V104 := Lib.hid (r12u103.out.kept kV104)
        clear r12u103
        have r14V104 := Lib.hid (r14u103.out.kept kV104)
        clear r14u103
        have r16V104 : RowKit.Hid (RowC V104 (u103.heap.size) [.int .i64 z1, .int .i64 z2, .bool z3]) := Lib.hid (by rw [hV104]; exact (RowC.new _ _ 34))
        have kwV104 := Lib.hid (kwu103.out.trans kV104)
        clear hV104 kV104
        clear cr50 cr51 lr5 cr60 cr61 lr6 cr70 cr71 cr72 cr73 cr74 lr7 cr110 cr111 cr112 cr113 cr114 lr11 cr120 cr121 cr122 lr12 cr140 cr141 cr142 lr14
        have cr50 := (r5V104.out 0 _ rfl).1
        have cr51 := (r5V104.out 1 _ rfl).1
        have lr5 := cell_lt cr50
        have cr60 := (r6V104.out 0 _ rfl).1
        have cr61 := (r6V104.out 1 _ rfl).1
        have lr6 := cell_lt cr60
        have cr70 := (r7V104.out 0 _ rfl).1
        have cr71 := (r7V104.out 1 _ rfl).1
        have cr72 := (r7V104.out 2 _ rfl).1
        have cr73 := (r7V104.out 3 _ rfl).1
        have cr74 := (r7V104.out 4 _ rfl).1
        have lr7 := cell_lt cr70
        have cr110 := (r11V104.out 0 _ rfl).1
        have cr111 := (r11V104.out 1 _ rfl).1
        have cr112 := (r11V104.out 2 _ rfl).1
        have cr113 := (r11V104.out 3 _ rfl).1
        have cr114 := (r11V104.out 4 _ rfl).1
        have lr11 := cell_lt cr110
        have cr120 := (r12V104.out 0 _ rfl).1
        have cr121 := (r12V104.out 1 _ rfl).1
        have cr122 := (r12V104.out 2 _ rfl).1
        have lr12 := cell_lt cr120
        have cr140 := (r14V104.out 0 _ rfl).1
        have cr141 := (r14V104.out 1 _ rfl).1
        have cr142 := (r14V104.out 2 _ rfl).1
        have lr14 := cell_lt cr140
        have cr160 := (r16V104.out 0 _ rfl).1
        have cr161 := (r16V104.out 1 _ rfl).1
        have cr162 := (r16V104.out 2 _ rfl).1
        have lr16 := cell_lt cr160
        refine (counted_any _).mono ?_
        rintro e u104 ⟨rfl, hk104⟩
        have r5u104 := Lib.hid (r5V104.out.kept hk104)
        clear r5V104
        have r6u104 := Lib.hid (r6V104.out.kept hk104)
        clear r6V104
        have r7u104 := Lib.hid (r7V104.out.kept hk104)
        clear r7V104
        have r11u104 := Lib.hid (r11V104.out.kept hk104)
        clear r11V104
        have r12u104 := Lib.hid (r12V104.out.kept hk104)
        clear r12V104
        have r14u104 := Lib.hid (r14V104.out.kept hk104)
        clear r14V104
        have r16u104 := Lib.hid (r16V104.out.kept hk104)
        clear r16V104
        have kwu104 := Lib.hid (kwV104.out.trans hk104)
        clear hk104
        clear cr50 cr51 lr5 cr60 cr61 lr6 cr70 cr71 cr72 cr73 cr74 lr7 cr110 cr111 cr112 cr113 cr114 lr11 cr120 cr121 cr122 lr12 cr140 cr141 cr142 lr14 cr160 cr161 cr162 lr16
        have cr50 := (r5u104.out 0 _ rfl).1
        have cr51 := (r5u104.out 1 _ rfl).1
        have lr5 := cell_lt cr50
        have cr60 := (r6u104.out 0 _ rfl).1
        have cr61 := (r6u104.out 1 _ rfl).1
        have lr6 := cell_lt cr60
        have cr70 := (r7u104.out 0 _ rfl).1
        have cr71 := (r7u104.out 1 _ rfl).1
        have cr72 := (r7u104.out 2 _ rfl).1
        have cr73 := (r7u104.out 3 _ rfl).1
        have cr74 := (r7u104.out 4 _ rfl).1
        have lr7 := cell_lt cr70
        have cr110 := (r11u104.out 0 _ rfl).1
        have cr111 := (r11u104.out 1 _ rfl).1
        have cr112 := (r11u104.out 2 _ rfl).1
        have cr113 := (r11u104.out 3 _ rfl).1
        have cr114 := (r11u104.out 4 _ rfl).1
        have lr11 := cell_lt cr110
        have cr120 := (r12u104.out 0 _ rfl).1
        have cr121 := (r12u104.out 1 _ rfl).1
        have cr122 := (r12u104.out 2 _ rfl).1
        have lr12 := cell_lt cr120
        have cr140 := (r14u104.out 0 _ rfl).1
        have cr141 := (r14u104.out 1 _ rfl).1
        have cr142 := (r14u104.out 2 _ rfl).1
        have lr14 := cell_lt cr140
        have cr160 := (r16u104.out 0 _ rfl).1
        have cr161 := (r16u104.out 1 _ rfl).1
        have cr162 := (r16u104.out 2 _ rfl).1
        have lr16 := cell_lt cr160
        go_wp2
        go_ret
        exact ⟨rfl, kwu104.out⟩
      · rw [errI_true] at H3
        cases ix
        · clear HIN
          go_enter Try.func11, Try.ntmps11
          go_upto_region 1 with (fail)
          rw [← HW.out]
          go_upto_region 3 with (first
        | (go_at_call 55; refine (HN.out _).mono ?_; rintro e w1 ⟨rfl, hk⟩; replace kk := (by first | with_reducible exact kk.trans hk | with_reducible exact (kk.alloc _).trans hk | with_reducible exact kk.drew.trans hk | with_reducible exact (kk.drew.alloc _).trans hk | with_reducible exact (kk.alloc _).drew.trans hk | with_reducible exact ((kk.alloc _).alloc _).trans hk | with_reducible exact ((kk.drew.alloc _).alloc _).trans hk | fail); obtain ⟨c00, c01, c10, c11, c20, c21, c22, c23, c24⟩ := BR.out _ kk; have b0 := cell_lt c00; have b1 := cell_lt c10; have b2 := cell_lt c20)
        | (go_at_call 57; refine (HL.out _).mono ?_; rintro e w1 ⟨rfl, hk⟩; replace kk := kk.trans hk; obtain ⟨c00, c01, c10, c11, c20, c21, c22, c23, c24⟩ := BR.out _ kk)
        | (go_at_call 30; refine (counted_any _).mono ?_; rintro e w1 ⟨rfl, hk⟩; replace kk := (by first | with_reducible exact kk.trans hk | with_reducible exact (kk.alloc _).trans hk | with_reducible exact kk.drew.trans hk | with_reducible exact (kk.drew.alloc _).trans hk | with_reducible exact (kk.alloc _).drew.trans hk | with_reducible exact ((kk.alloc _).alloc _).trans hk | with_reducible exact ((kk.drew.alloc _).alloc _).trans hk | fail); obtain ⟨c00, c01, c10, c11, c20, c21, c22, c23, c24⟩ := BR.out _ kk; have b0 := cell_lt c00; have b1 := cell_lt c10; have b2 := cell_lt c20)
        | fail)
          rename World => wk
          have kwwk := Lib.hid (K0.out.trans kk)
          have r5wk : RowKit.Hid (RowC wk w.heap.size [.int .i64 m, .int .i64 d]) := Lib.hid ((show RowC W0 _ _ by rw [HW.out]; exact (RowC.new _ _ 23).kept (((Kept.refl _).alloc _).alloc _)).kept kk)
          have r6wk : RowKit.Hid (RowC wk (w.heap.size + 1) [.int .i64 m2, .int .i64 d2]) := Lib.hid ((show RowC W0 _ _ by rw [HW.out]; exact (RowC.atn (vs := [.int .i64 m2, .int .i64 d2]) (by simp)).kept ((Kept.refl _).alloc _)).kept kk)
          have r7wk : RowKit.Hid (RowC wk (w.heap.size + 1 + 1) [.int .i64 i, .int .i64 dy, .int .i64 s, .int .i64 nu, .int .i64 x]) := Lib.hid ((show RowC W0 _ _ by rw [HW.out]; exact RowC.atn (vs := [.int .i64 i, .int .i64 dy, .int .i64 s, .int .i64 nu, .int .i64 x]) (by simp)).kept kk)
          clear kk c00 c01 c10 c11 c20 c21 c22 c23 c24 b0 b1 b2
          have cr50 := (r5wk.out 0 _ rfl).1
          have cr51 := (r5wk.out 1 _ rfl).1
          have lr5 := cell_lt cr50
          have cr60 := (r6wk.out 0 _ rfl).1
          have cr61 := (r6wk.out 1 _ rfl).1
          have lr6 := cell_lt cr60
          have cr70 := (r7wk.out 0 _ rfl).1
          have cr71 := (r7wk.out 1 _ rfl).1
          have cr72 := (r7wk.out 2 _ rfl).1
          have cr73 := (r7wk.out 3 _ rfl).1
          have cr74 := (r7wk.out 4 _ rfl).1
          have lr7 := cell_lt cr70
          go_wp2_with fail
          obtain ⟨V101, hV101⟩ : ∃ V101, V101 = wk.alloc (.cells #[.int .i64 i, .int .i64 dy, .int .i64 s, .int .i64 nu, .int .i64 10000] 25) := ⟨_, rfl⟩
          rw [← hV101]
          have kV101 : Kept wk V101 := by rw [hV101]; exact (Kept.refl _).alloc _
          have r5V101 := Lib.hid (r5wk.out.kept kV101)
          clear r5wk
          have r6V101 := Lib.hid (r6wk.out.kept kV101)
          clear r6wk
          have r7V101 := Lib.hid (r7wk.out.kept kV101)
          clear r7wk
          have r11V101 : RowKit.Hid (RowC V101 (wk.heap.size) [.int .i64 i, .int .i64 dy, .int .i64 s, .int .i64 nu, .int .i64 10000]) := Lib.hid (by rw [hV101]; exact (RowC.new _ _ 25))
          have kwV101 := Lib.hid (kwwk.out.trans kV101)
          clear hV101 kV101
          clear cr50 cr51 lr5 cr60 cr61 lr6 cr70 cr71 cr72 cr73 cr74 lr7
          have cr50 := (r5V101.out 0 _ rfl).1
          have cr51 := (r5V101.out 1 _ rfl).1
          have lr5 := cell_lt cr50
          have cr60 := (r6V101.out 0 _ rfl).1
          have cr61 := (r6V101.out 1 _ rfl).1
          have lr6 := cell_lt cr60
          have cr70 := (r7V101.out 0 _ rfl).1
          have cr71 := (r7V101.out 1 _ rfl).1
          have cr72 := (r7V101.out 2 _ rfl).1
          have cr73 := (r7V101.out 3 _ rfl).1
          have cr74 := (r7V101.out 4 _ rfl).1
          have lr7 := cell_lt cr70
          have cr110 := (r11V101.out 0 _ rfl).1
          have cr111 := (r11V101.out 1 _ rfl).1
          have cr112 := (r11V101.out 2 _ rfl).1
          have cr113 := (r11V101.out 3 _ rfl).1
          have cr114 := (r11V101.out 4 _ rfl).1
          have lr11 := cell_lt cr110
          refine (H1.out _).mono ?_
          rintro e u101 ⟨rfl, hk101⟩
          have r5u101 := Lib.hid (r5V101.out.kept hk101)
          clear r5V101
          have r6u101 := Lib.hid (r6V101.out.kept hk101)
          clear r6V101
          have r7u101 := Lib.hid (r7V101.out.kept hk101)
          clear r7V101
          have r11u101 := Lib.hid (r11V101.out.kept hk101)
          clear r11V101
          have kwu101 := Lib.hid (kwV101.out.trans hk101)
          clear hk101
          clear cr50 cr51 lr5 cr60 cr61 lr6 cr70 cr71 cr72 cr73 cr74 lr7 cr110 cr111 cr112 cr113 cr114 lr11
          have cr50 := (r5u101.out 0 _ rfl).1
          have cr51 := (r5u101.out 1 _ rfl).1
          have lr5 := cell_lt cr50
          have cr60 := (r6u101.out 0 _ rfl).1
          have cr61 := (r6u101.out 1 _ rfl).1
          have lr6 := cell_lt cr60
          have cr70 := (r7u101.out 0 _ rfl).1
          have cr71 := (r7u101.out 1 _ rfl).1
          have cr72 := (r7u101.out 2 _ rfl).1
          have cr73 := (r7u101.out 3 _ rfl).1
          have cr74 := (r7u101.out 4 _ rfl).1
          have lr7 := cell_lt cr70
          have cr110 := (r11u101.out 0 _ rfl).1
          have cr111 := (r11u101.out 1 _ rfl).1
          have cr112 := (r11u101.out 2 _ rfl).1
          have cr113 := (r11u101.out 3 _ rfl).1
          have cr114 := (r11u101.out 4 _ rfl).1
          have lr11 := cell_lt cr110
          go_wp2_with fail
          obtain ⟨V102, hV102⟩ : ∃ V102, V102 = u101.alloc (.cells #[.int .i64 x1, .int .i64 x2, .bool x3] 34) := ⟨_, rfl⟩
          rw [← hV102]
          have kV102 : Kept u101 V102 := by rw [hV102]; exact (Kept.refl _).alloc _
          have r5V102 := Lib.hid (r5u101.out.kept kV102)
          clear r5u101
          have r6V102 := Lib.hid (r6u101.out.kept kV102)
          clear r6u101
          have r7V102 := Lib.hid (r7u101.out.kept kV102)
          clear r7u101
          have r11V102 := Lib.hid (r11u101.out.kept kV102)
          clear r11u101
          have r12V102 : RowKit.Hid (RowC V102 (u101.heap.size) [.int .i64 x1, .int .i64 x2, .bool x3]) := Lib.hid (by rw [hV102]; exact (RowC.new _ _ 34))
          have kwV102 := Lib.hid (kwu101.out.trans kV102)
          clear hV102 kV102
          clear cr50 cr51 lr5 cr60 cr61 lr6 cr70 cr71 cr72 cr73 cr74 lr7 cr110 cr111 cr112 cr113 cr114 lr11
          have cr50 := (r5V102.out 0 _ rfl).1
          have cr51 := (r5V102.out 1 _ rfl).1
          have lr5 := cell_lt cr50
          have cr60 := (r6V102.out 0 _ rfl).1
          have cr61 := (r6V102.out 1 _ rfl).1
          have lr6 := cell_lt cr60
          have cr70 := (r7V102.out 0 _ rfl).1
          have cr71 := (r7V102.out 1 _ rfl).1
          have cr72 := (r7V102.out 2 _ rfl).1
          have cr73 := (r7V102.out 3 _ rfl).1
          have cr74 := (r7V102.out 4 _ rfl).1
          have lr7 := cell_lt cr70
          have cr110 := (r11V102.out 0 _ rfl).1
          have cr111 := (r11V102.out 1 _ rfl).1
          have cr112 := (r11V102.out 2 _ rfl).1
          have cr113 := (r11V102.out 3 _ rfl).1
          have cr114 := (r11V102.out 4 _ rfl).1
          have lr11 := cell_lt cr110
          have cr120 := (r12V102.out 0 _ rfl).1
          have cr121 := (r12V102.out 1 _ rfl).1
          have cr122 := (r12V102.out 2 _ rfl).1
          have lr12 := cell_lt cr120
          refine (H2.out _).mono ?_
          rintro e u102 ⟨rfl, hk102⟩
          have r5u102 := Lib.hid (r5V102.out.kept hk102)
          clear r5V102
          have r6u102 := Lib.hid (r6V102.out.kept hk102)
          clear r6V102
          have r7u102 := Lib.hid (r7V102.out.kept hk102)
          clear r7V102
          have r11u102 := Lib.hid (r11V102.out.kept hk102)
          clear r11V102
          have r12u102 := Lib.hid (r12V102.out.kept hk102)
          clear r12V102
          have kwu102 := Lib.hid (kwV102.out.trans hk102)
          clear hk102
          clear cr50 cr51 lr5 cr60 cr61 lr6 cr70 cr71 cr72 cr73 cr74 lr7 cr110 cr111 cr112 cr113 cr114 lr11 cr120 cr121 cr122 lr12
          have cr50 := (r5u102.out 0 _ rfl).1
          have cr51 := (r5u102.out 1 _ rfl).1
          have lr5 := cell_lt cr50
          have cr60 := (r6u102.out 0 _ rfl).1
          have cr61 := (r6u102.out 1 _ rfl).1
          have lr6 := cell_lt cr60
          have cr70 := (r7u102.out 0 _ rfl).1
          have cr71 := (r7u102.out 1 _ rfl).1
          have cr72 := (r7u102.out 2 _ rfl).1
          have cr73 := (r7u102.out 3 _ rfl).1
          have cr74 := (r7u102.out 4 _ rfl).1
          have lr7 := cell_lt cr70
          have cr110 := (r11u102.out 0 _ rfl).1
          have cr111 := (r11u102.out 1 _ rfl).1
          have cr112 := (r11u102.out 2 _ rfl).1
          have cr113 := (r11u102.out 3 _ rfl).1
          have cr114 := (r11u102.out 4 _ rfl).1
          have lr11 := cell_lt cr110
          have cr120 := (r12u102.out 0 _ rfl).1
          have cr121 := (r12u102.out 1 _ rfl).1
          have cr122 := (r12u102.out 2 _ rfl).1
          have lr12 := cell_lt cr120
          go_wp2_with fail
          obtain ⟨V103, hV103⟩ : ∃ V103, V103 = u102.alloc (.cells #[.int .i64 y1, .int .i64 y2, .bool y3] 34) := ⟨_, rfl⟩
          rw [← hV103]
          have kV103 : Kept u102 V103 := by rw [hV103]; exact (Kept.refl _).alloc _
          have r5V103 := Lib.hid (r5u102.out.kept kV103)
          clear r5u102
          have r6V103 := Lib.hid (r6u102.out.kept kV103)
          clear r6u102
          have r7V103 := Lib.hid (r7u102.out.kept kV103)
          clear r7u102
          have r11V103 := Lib.hid (r11u102.out.kept kV103)
          clear r11u102
          have r12V103 := Lib.hid (r12u102.out.kept kV103)
          clear r12u102
          have r14V103 : RowKit.Hid (RowC V103 (u102.heap.size) [.int .i64 y1, .int .i64 y2, .bool y3]) := Lib.hid (by rw [hV103]; exact (RowC.new _ _ 34))
          have kwV103 := Lib.hid (kwu102.out.trans kV103)
          clear hV103 kV103
          clear cr50 cr51 lr5 cr60 cr61 lr6 cr70 cr71 cr72 cr73 cr74 lr7 cr110 cr111 cr112 cr113 cr114 lr11 cr120 cr121 cr122 lr12
          have cr50 := (r5V103.out 0 _ rfl).1
          have cr51 := (r5V103.out 1 _ rfl).1
          have lr5 := cell_lt cr50
          have cr60 := (r6V103.out 0 _ rfl).1
          have cr61 := (r6V103.out 1 _ rfl).1
          have lr6 := cell_lt cr60
          have cr70 := (r7V103.out 0 _ rfl).1
          have cr71 := (r7V103.out 1 _ rfl).1
          have cr72 := (r7V103.out 2 _ rfl).1
          have cr73 := (r7V103.out 3 _ rfl).1
          have cr74 := (r7V103.out 4 _ rfl).1
          have lr7 := cell_lt cr70
          have cr110 := (r11V103.out 0 _ rfl).1
          have cr111 := (r11V103.out 1 _ rfl).1
          have cr112 := (r11V103.out 2 _ rfl).1
          have cr113 := (r11V103.out 3 _ rfl).1
          have cr114 := (r11V103.out 4 _ rfl).1
          have lr11 := cell_lt cr110
          have cr120 := (r12V103.out 0 _ rfl).1
          have cr121 := (r12V103.out 1 _ rfl).1
          have cr122 := (r12V103.out 2 _ rfl).1
          have lr12 := cell_lt cr120
          have cr140 := (r14V103.out 0 _ rfl).1
          have cr141 := (r14V103.out 1 _ rfl).1
          have cr142 := (r14V103.out 2 _ rfl).1
          have lr14 := cell_lt cr140
          refine (H3.out _).mono ?_
          rintro e u103 ⟨rfl, hk103⟩
          have r5u103 := Lib.hid (r5V103.out.kept hk103)
          clear r5V103
          have r6u103 := Lib.hid (r6V103.out.kept hk103)
          clear r6V103
          have r7u103 := Lib.hid (r7V103.out.kept hk103)
          clear r7V103
          have r11u103 := Lib.hid (r11V103.out.kept hk103)
          clear r11V103
          have r12u103 := Lib.hid (r12V103.out.kept hk103)
          clear r12V103
          have r14u103 := Lib.hid (r14V103.out.kept hk103)
          clear r14V103
          have kwu103 := Lib.hid (kwV103.out.trans hk103)
          clear hk103
          clear cr50 cr51 lr5 cr60 cr61 lr6 cr70 cr71 cr72 cr73 cr74 lr7 cr110 cr111 cr112 cr113 cr114 lr11 cr120 cr121 cr122 lr12 cr140 cr141 cr142 lr14
          have cr50 := (r5u103.out 0 _ rfl).1
          have cr51 := (r5u103.out 1 _ rfl).1
          have lr5 := cell_lt cr50
          have cr60 := (r6u103.out 0 _ rfl).1
          have cr61 := (r6u103.out 1 _ rfl).1
          have lr6 := cell_lt cr60
          have cr70 := (r7u103.out 0 _ rfl).1
          have cr71 := (r7u103.out 1 _ rfl).1
          have cr72 := (r7u103.out 2 _ rfl).1
          have cr73 := (r7u103.out 3 _ rfl).1
          have cr74 := (r7u103.out 4 _ rfl).1
          have lr7 := cell_lt cr70
          have cr110 := (r11u103.out 0 _ rfl).1
          have cr111 := (r11u103.out 1 _ rfl).1
          have cr112 := (r11u103.out 2 _ rfl).1
          have cr113 := (r11u103.out 3 _ rfl).1
          have cr114 := (r11u103.out 4 _ rfl).1
          have lr11 := cell_lt cr110
          have cr120 := (r12u103.out 0 _ rfl).1
          have cr121 := (r12u103.out 1 _ rfl).1
          have cr122 := (r12u103.out 2 _ rfl).1
          have lr12 := cell_lt cr120
          have cr140 := (r14u103.out 0 _ rfl).1
          have cr141 := (r14u103.out 1 _ rfl).1
          have cr142 := (r14u103.out 2 _ rfl).1
          have lr14 := cell_lt cr140
          go_wp2_with fail
          obtain ⟨V104, hV104⟩ : ∃ V104, V104 = u103.alloc (.cells #[.int .i64 z1, .int .i64 z2, .bool z3] 34) := ⟨_, rfl⟩
          rw [← hV104]
          have kV104 : Kept u103 V104 := by rw [hV104]; exact (Kept.refl _).alloc _
          have r5V104 := Lib.hid (r5u103.out.kept kV104)
          clear r5u103
          have r6V104 := Lib.hid (r6u103.out.kept kV104)
          clear r6u103
          have r7V104 := Lib.hid (r7u103.out.kept kV104)
          clear r7u103
          have r11V104 := Lib.hid (r11u103.out.kept kV104)
          clear r11u103
          have r12V104 := Lib.hid (r12u103.out.kept kV104)
          clear r12u103
          have r14V104 := Lib.hid (r14u103.out.kept kV104)
          clear r14u103
          have r16V104 : RowKit.Hid (RowC V104 (u103.heap.size) [.int .i64 z1, .int .i64 z2, .bool z3]) := Lib.hid (by rw [hV104]; exact (RowC.new _ _ 34))
          have kwV104 := Lib.hid (kwu103.out.trans kV104)
          clear hV104 kV104
          clear cr50 cr51 lr5 cr60 cr61 lr6 cr70 cr71 cr72 cr73 cr74 lr7 cr110 cr111 cr112 cr113 cr114 lr11 cr120 cr121 cr122 lr12 cr140 cr141 cr142 lr14
          have cr50 := (r5V104.out 0 _ rfl).1
          have cr51 := (r5V104.out 1 _ rfl).1
          have lr5 := cell_lt cr50
          have cr60 := (r6V104.out 0 _ rfl).1
          have cr61 := (r6V104.out 1 _ rfl).1
          have lr6 := cell_lt cr60
          have cr70 := (r7V104.out 0 _ rfl).1
          have cr71 := (r7V104.out 1 _ rfl).1
          have cr72 := (r7V104.out 2 _ rfl).1
          have cr73 := (r7V104.out 3 _ rfl).1
          have cr74 := (r7V104.out 4 _ rfl).1
          have lr7 := cell_lt cr70
          have cr110 := (r11V104.out 0 _ rfl).1
          have cr111 := (r11V104.out 1 _ rfl).1
          have cr112 := (r11V104.out 2 _ rfl).1
          have cr113 := (r11V104.out 3 _ rfl).1
          have cr114 := (r11V104.out 4 _ rfl).1
          have lr11 := cell_lt cr110
          have cr120 := (r12V104.out 0 _ rfl).1
          have cr121 := (r12V104.out 1 _ rfl).1
          have cr122 := (r12V104.out 2 _ rfl).1
          have lr12 := cell_lt cr120
          have cr140 := (r14V104.out 0 _ rfl).1
          have cr141 := (r14V104.out 1 _ rfl).1
          have cr142 := (r14V104.out 2 _ rfl).1
          have lr14 := cell_lt cr140
          have cr160 := (r16V104.out 0 _ rfl).1
          have cr161 := (r16V104.out 1 _ rfl).1
          have cr162 := (r16V104.out 2 _ rfl).1
          have lr16 := cell_lt cr160
          refine (counted_any _).mono ?_
          rintro e u104 ⟨rfl, hk104⟩
          have r5u104 := Lib.hid (r5V104.out.kept hk104)
          clear r5V104
          have r6u104 := Lib.hid (r6V104.out.kept hk104)
          clear r6V104
          have r7u104 := Lib.hid (r7V104.out.kept hk104)
          clear r7V104
          have r11u104 := Lib.hid (r11V104.out.kept hk104)
          clear r11V104
          have r12u104 := Lib.hid (r12V104.out.kept hk104)
          clear r12V104
          have r14u104 := Lib.hid (r14V104.out.kept hk104)
          clear r14V104
          have r16u104 := Lib.hid (r16V104.out.kept hk104)
          clear r16V104
          have kwu104 := Lib.hid (kwV104.out.trans hk104)
          clear hk104
          clear cr50 cr51 lr5 cr60 cr61 lr6 cr70 cr71 cr72 cr73 cr74 lr7 cr110 cr111 cr112 cr113 cr114 lr11 cr120 cr121 cr122 lr12 cr140 cr141 cr142 lr14 cr160 cr161 cr162 lr16
          have cr50 := (r5u104.out 0 _ rfl).1
          have cr51 := (r5u104.out 1 _ rfl).1
          have lr5 := cell_lt cr50
          have cr60 := (r6u104.out 0 _ rfl).1
          have cr61 := (r6u104.out 1 _ rfl).1
          have lr6 := cell_lt cr60
          have cr70 := (r7u104.out 0 _ rfl).1
          have cr71 := (r7u104.out 1 _ rfl).1
          have cr72 := (r7u104.out 2 _ rfl).1
          have cr73 := (r7u104.out 3 _ rfl).1
          have cr74 := (r7u104.out 4 _ rfl).1
          have lr7 := cell_lt cr70
          have cr110 := (r11u104.out 0 _ rfl).1
          have cr111 := (r11u104.out 1 _ rfl).1
          have cr112 := (r11u104.out 2 _ rfl).1
          have cr113 := (r11u104.out 3 _ rfl).1
          have cr114 := (r11u104.out 4 _ rfl).1
          have lr11 := cell_lt cr110
          have cr120 := (r12u104.out 0 _ rfl).1
          have cr121 := (r12u104.out 1 _ rfl).1
          have cr122 := (r12u104.out 2 _ rfl).1
          have lr12 := cell_lt cr120
          have cr140 := (r14u104.out 0 _ rfl).1
          have cr141 := (r14u104.out 1 _ rfl).1
          have cr142 := (r14u104.out 2 _ rfl).1
          have lr14 := cell_lt cr140
          have cr160 := (r16u104.out 0 _ rfl).1
          have cr161 := (r16u104.out 1 _ rfl).1
          have cr162 := (r16u104.out 2 _ rfl).1
          have lr16 := cell_lt cr160
          go_wp2_with fail
          obtain ⟨V105, hV105⟩ : ∃ V105, V105 = u104 := ⟨_, rfl⟩
          rw [← hV105]
          have kV105 : Kept u104 V105 := by rw [hV105]; exact Kept.refl _
          have r5V105 := Lib.hid (r5u104.out.kept kV105)
          clear r5u104
          have r6V105 := Lib.hid (r6u104.out.kept kV105)
          clear r6u104
          have r7V105 := Lib.hid (r7u104.out.kept kV105)
          clear r7u104
          have r11V105 := Lib.hid (r11u104.out.kept kV105)
          clear r11u104
          have r12V105 := Lib.hid (r12u104.out.kept kV105)
          clear r12u104
          have r14V105 := Lib.hid (r14u104.out.kept kV105)
          clear r14u104
          have r16V105 := Lib.hid (r16u104.out.kept kV105)
          clear r16u104
          have kwV105 := Lib.hid (kwu104.out.trans kV105)
          clear hV105 kV105
          clear cr50 cr51 lr5 cr60 cr61 lr6 cr70 cr71 cr72 cr73 cr74 lr7 cr110 cr111 cr112 cr113 cr114 lr11 cr120 cr121 cr122 lr12 cr140 cr141 cr142 lr14 cr160 cr161 cr162 lr16
          have cr50 := (r5V105.out 0 _ rfl).1
          have cr51 := (r5V105.out 1 _ rfl).1
          have lr5 := cell_lt cr50
          have cr60 := (r6V105.out 0 _ rfl).1
          have cr61 := (r6V105.out 1 _ rfl).1
          have lr6 := cell_lt cr60
          have cr70 := (r7V105.out 0 _ rfl).1
          have cr71 := (r7V105.out 1 _ rfl).1
          have cr72 := (r7V105.out 2 _ rfl).1
          have cr73 := (r7V105.out 3 _ rfl).1
          have cr74 := (r7V105.out 4 _ rfl).1
          have lr7 := cell_lt cr70
          have cr110 := (r11V105.out 0 _ rfl).1
          have cr111 := (r11V105.out 1 _ rfl).1
          have cr112 := (r11V105.out 2 _ rfl).1
          have cr113 := (r11V105.out 3 _ rfl).1
          have cr114 := (r11V105.out 4 _ rfl).1
          have lr11 := cell_lt cr110
          have cr120 := (r12V105.out 0 _ rfl).1
          have cr121 := (r12V105.out 1 _ rfl).1
          have cr122 := (r12V105.out 2 _ rfl).1
          have lr12 := cell_lt cr120
          have cr140 := (r14V105.out 0 _ rfl).1
          have cr141 := (r14V105.out 1 _ rfl).1
          have cr142 := (r14V105.out 2 _ rfl).1
          have lr14 := cell_lt cr140
          have cr160 := (r16V105.out 0 _ rfl).1
          have cr161 := (r16V105.out 1 _ rfl).1
          have cr162 := (r16V105.out 2 _ rfl).1
          have lr16 := cell_lt cr160
          refine (HX.out _).mono ?_
          rintro e u105 ⟨rfl, hk105⟩
          have r5u105 := Lib.hid (r5V105.out.kept hk105)
          clear r5V105
          have r6u105 := Lib.hid (r6V105.out.kept hk105)
          clear r6V105
          have r7u105 := Lib.hid (r7V105.out.kept hk105)
          clear r7V105
          have r11u105 := Lib.hid (r11V105.out.kept hk105)
          clear r11V105
          have r12u105 := Lib.hid (r12V105.out.kept hk105)
          clear r12V105
          have r14u105 := Lib.hid (r14V105.out.kept hk105)
          clear r14V105
          have r16u105 := Lib.hid (r16V105.out.kept hk105)
          clear r16V105
          have kwu105 := Lib.hid (kwV105.out.trans hk105)
          clear hk105
          clear cr50 cr51 lr5 cr60 cr61 lr6 cr70 cr71 cr72 cr73 cr74 lr7 cr110 cr111 cr112 cr113 cr114 lr11 cr120 cr121 cr122 lr12 cr140 cr141 cr142 lr14 cr160 cr161 cr162 lr16
          have cr50 := (r5u105.out 0 _ rfl).1
          have cr51 := (r5u105.out 1 _ rfl).1
          have lr5 := cell_lt cr50
          have cr60 := (r6u105.out 0 _ rfl).1
          have cr61 := (r6u105.out 1 _ rfl).1
          have lr6 := cell_lt cr60
          have cr70 := (r7u105.out 0 _ rfl).1
          have cr71 := (r7u105.out 1 _ rfl).1
          have cr72 := (r7u105.out 2 _ rfl).1
          have cr73 := (r7u105.out 3 _ rfl).1
          have cr74 := (r7u105.out 4 _ rfl).1
          have lr7 := cell_lt cr70
          have cr110 := (r11u105.out 0 _ rfl).1
          have cr111 := (r11u105.out 1 _ rfl).1
          have cr112 := (r11u105.out 2 _ rfl).1
          have cr113 := (r11u105.out 3 _ rfl).1
          have cr114 := (r11u105.out 4 _ rfl).1
          have lr11 := cell_lt cr110
          have cr120 := (r12u105.out 0 _ rfl).1
          have cr121 := (r12u105.out 1 _ rfl).1
          have cr122 := (r12u105.out 2 _ rfl).1
          have lr12 := cell_lt cr120
          have cr140 := (r14u105.out 0 _ rfl).1
          have cr141 := (r14u105.out 1 _ rfl).1
          have cr142 := (r14u105.out 2 _ rfl).1
          have lr14 := cell_lt cr140
          have cr160 := (r16u105.out 0 _ rfl).1
          have cr161 := (r16u105.out 1 _ rfl).1
          have cr162 := (r16u105.out 2 _ rfl).1
          have lr16 := cell_lt cr160
          go_wp2
          go_ret
          exact ⟨rfl, kwu105.out⟩
        · obtain ⟨h5, h6⟩ := HIN.out rfl rfl rfl
          subst h5 h6
          clear HIN
          go_enter Try.func11, Try.ntmps11
          go_upto_region 1 with (fail)
          rw [← HW.out]
          go_upto_region 3 with (first
        | (go_at_call 55; refine (HN.out _).mono ?_; rintro e w1 ⟨rfl, hk⟩; replace kk := (by first | with_reducible exact kk.trans hk | with_reducible exact (kk.alloc _).trans hk | with_reducible exact kk.drew.trans hk | with_reducible exact (kk.drew.alloc _).trans hk | with_reducible exact (kk.alloc _).drew.trans hk | with_reducible exact ((kk.alloc _).alloc _).trans hk | with_reducible exact ((kk.drew.alloc _).alloc _).trans hk | fail); obtain ⟨c00, c01, c10, c11, c20, c21, c22, c23, c24⟩ := BR.out _ kk; have b0 := cell_lt c00; have b1 := cell_lt c10; have b2 := cell_lt c20)
        | (go_at_call 57; refine (HL.out _).mono ?_; rintro e w1 ⟨rfl, hk⟩; replace kk := kk.trans hk; obtain ⟨c00, c01, c10, c11, c20, c21, c22, c23, c24⟩ := BR.out _ kk)
        | (go_at_call 30; refine (counted_any _).mono ?_; rintro e w1 ⟨rfl, hk⟩; replace kk := (by first | with_reducible exact kk.trans hk | with_reducible exact (kk.alloc _).trans hk | with_reducible exact kk.drew.trans hk | with_reducible exact (kk.drew.alloc _).trans hk | with_reducible exact (kk.alloc _).drew.trans hk | with_reducible exact ((kk.alloc _).alloc _).trans hk | with_reducible exact ((kk.drew.alloc _).alloc _).trans hk | fail); obtain ⟨c00, c01, c10, c11, c20, c21, c22, c23, c24⟩ := BR.out _ kk; have b0 := cell_lt c00; have b1 := cell_lt c10; have b2 := cell_lt c20)
        | fail)
          rename World => wk
          have kwwk := Lib.hid (K0.out.trans kk)
          have r5wk : RowKit.Hid (RowC wk w.heap.size [.int .i64 m, .int .i64 d]) := Lib.hid ((show RowC W0 _ _ by rw [HW.out]; exact (RowC.new _ _ 23).kept (((Kept.refl _).alloc _).alloc _)).kept kk)
          have r6wk : RowKit.Hid (RowC wk (w.heap.size + 1) [.int .i64 m2, .int .i64 d2]) := Lib.hid ((show RowC W0 _ _ by rw [HW.out]; exact (RowC.atn (vs := [.int .i64 m2, .int .i64 d2]) (by simp)).kept ((Kept.refl _).alloc _)).kept kk)
          have r7wk : RowKit.Hid (RowC wk (w.heap.size + 1 + 1) [.int .i64 i, .int .i64 dy, .int .i64 s, .int .i64 nu, .int .i64 x]) := Lib.hid ((show RowC W0 _ _ by rw [HW.out]; exact RowC.atn (vs := [.int .i64 i, .int .i64 dy, .int .i64 s, .int .i64 nu, .int .i64 x]) (by simp)).kept kk)
          clear kk c00 c01 c10 c11 c20 c21 c22 c23 c24 b0 b1 b2
          have cr50 := (r5wk.out 0 _ rfl).1
          have cr51 := (r5wk.out 1 _ rfl).1
          have lr5 := cell_lt cr50
          have cr60 := (r6wk.out 0 _ rfl).1
          have cr61 := (r6wk.out 1 _ rfl).1
          have lr6 := cell_lt cr60
          have cr70 := (r7wk.out 0 _ rfl).1
          have cr71 := (r7wk.out 1 _ rfl).1
          have cr72 := (r7wk.out 2 _ rfl).1
          have cr73 := (r7wk.out 3 _ rfl).1
          have cr74 := (r7wk.out 4 _ rfl).1
          have lr7 := cell_lt cr70
          go_wp2_with fail
          obtain ⟨V101, hV101⟩ : ∃ V101, V101 = wk.alloc (.cells #[.int .i64 i, .int .i64 dy, .int .i64 s, .int .i64 nu, .int .i64 10000] 25) := ⟨_, rfl⟩
          rw [← hV101]
          have kV101 : Kept wk V101 := by rw [hV101]; exact (Kept.refl _).alloc _
          have r5V101 := Lib.hid (r5wk.out.kept kV101)
          clear r5wk
          have r6V101 := Lib.hid (r6wk.out.kept kV101)
          clear r6wk
          have r7V101 := Lib.hid (r7wk.out.kept kV101)
          clear r7wk
          have r11V101 : RowKit.Hid (RowC V101 (wk.heap.size) [.int .i64 i, .int .i64 dy, .int .i64 s, .int .i64 nu, .int .i64 10000]) := Lib.hid (by rw [hV101]; exact (RowC.new _ _ 25))
          have kwV101 := Lib.hid (kwwk.out.trans kV101)
          clear hV101 kV101
          clear cr50 cr51 lr5 cr60 cr61 lr6 cr70 cr71 cr72 cr73 cr74 lr7
          have cr50 := (r5V101.out 0 _ rfl).1
          have cr51 := (r5V101.out 1 _ rfl).1
          have lr5 := cell_lt cr50
          have cr60 := (r6V101.out 0 _ rfl).1
          have cr61 := (r6V101.out 1 _ rfl).1
          have lr6 := cell_lt cr60
          have cr70 := (r7V101.out 0 _ rfl).1
          have cr71 := (r7V101.out 1 _ rfl).1
          have cr72 := (r7V101.out 2 _ rfl).1
          have cr73 := (r7V101.out 3 _ rfl).1
          have cr74 := (r7V101.out 4 _ rfl).1
          have lr7 := cell_lt cr70
          have cr110 := (r11V101.out 0 _ rfl).1
          have cr111 := (r11V101.out 1 _ rfl).1
          have cr112 := (r11V101.out 2 _ rfl).1
          have cr113 := (r11V101.out 3 _ rfl).1
          have cr114 := (r11V101.out 4 _ rfl).1
          have lr11 := cell_lt cr110
          refine (H1.out _).mono ?_
          rintro e u101 ⟨rfl, hk101⟩
          have r5u101 := Lib.hid (r5V101.out.kept hk101)
          clear r5V101
          have r6u101 := Lib.hid (r6V101.out.kept hk101)
          clear r6V101
          have r7u101 := Lib.hid (r7V101.out.kept hk101)
          clear r7V101
          have r11u101 := Lib.hid (r11V101.out.kept hk101)
          clear r11V101
          have kwu101 := Lib.hid (kwV101.out.trans hk101)
          clear hk101
          clear cr50 cr51 lr5 cr60 cr61 lr6 cr70 cr71 cr72 cr73 cr74 lr7 cr110 cr111 cr112 cr113 cr114 lr11
          have cr50 := (r5u101.out 0 _ rfl).1
          have cr51 := (r5u101.out 1 _ rfl).1
          have lr5 := cell_lt cr50
          have cr60 := (r6u101.out 0 _ rfl).1
          have cr61 := (r6u101.out 1 _ rfl).1
          have lr6 := cell_lt cr60
          have cr70 := (r7u101.out 0 _ rfl).1
          have cr71 := (r7u101.out 1 _ rfl).1
          have cr72 := (r7u101.out 2 _ rfl).1
          have cr73 := (r7u101.out 3 _ rfl).1
          have cr74 := (r7u101.out 4 _ rfl).1
          have lr7 := cell_lt cr70
          have cr110 := (r11u101.out 0 _ rfl).1
          have cr111 := (r11u101.out 1 _ rfl).1
          have cr112 := (r11u101.out 2 _ rfl).1
          have cr113 := (r11u101.out 3 _ rfl).1
          have cr114 := (r11u101.out 4 _ rfl).1
          have lr11 := cell_lt cr110
          go_wp2_with fail
          obtain ⟨V102, hV102⟩ : ∃ V102, V102 = u101.alloc (.cells #[.int .i64 x1, .int .i64 x2, .bool x3] 34) := ⟨_, rfl⟩
          rw [← hV102]
          have kV102 : Kept u101 V102 := by rw [hV102]; exact (Kept.refl _).alloc _
          have r5V102 := Lib.hid (r5u101.out.kept kV102)
          clear r5u101
          have r6V102 := Lib.hid (r6u101.out.kept kV102)
          clear r6u101
          have r7V102 := Lib.hid (r7u101.out.kept kV102)
          clear r7u101
          have r11V102 := Lib.hid (r11u101.out.kept kV102)
          clear r11u101
          have r12V102 : RowKit.Hid (RowC V102 (u101.heap.size) [.int .i64 x1, .int .i64 x2, .bool x3]) := Lib.hid (by rw [hV102]; exact (RowC.new _ _ 34))
          have kwV102 := Lib.hid (kwu101.out.trans kV102)
          clear hV102 kV102
          clear cr50 cr51 lr5 cr60 cr61 lr6 cr70 cr71 cr72 cr73 cr74 lr7 cr110 cr111 cr112 cr113 cr114 lr11
          have cr50 := (r5V102.out 0 _ rfl).1
          have cr51 := (r5V102.out 1 _ rfl).1
          have lr5 := cell_lt cr50
          have cr60 := (r6V102.out 0 _ rfl).1
          have cr61 := (r6V102.out 1 _ rfl).1
          have lr6 := cell_lt cr60
          have cr70 := (r7V102.out 0 _ rfl).1
          have cr71 := (r7V102.out 1 _ rfl).1
          have cr72 := (r7V102.out 2 _ rfl).1
          have cr73 := (r7V102.out 3 _ rfl).1
          have cr74 := (r7V102.out 4 _ rfl).1
          have lr7 := cell_lt cr70
          have cr110 := (r11V102.out 0 _ rfl).1
          have cr111 := (r11V102.out 1 _ rfl).1
          have cr112 := (r11V102.out 2 _ rfl).1
          have cr113 := (r11V102.out 3 _ rfl).1
          have cr114 := (r11V102.out 4 _ rfl).1
          have lr11 := cell_lt cr110
          have cr120 := (r12V102.out 0 _ rfl).1
          have cr121 := (r12V102.out 1 _ rfl).1
          have cr122 := (r12V102.out 2 _ rfl).1
          have lr12 := cell_lt cr120
          refine (H2.out _).mono ?_
          rintro e u102 ⟨rfl, hk102⟩
          have r5u102 := Lib.hid (r5V102.out.kept hk102)
          clear r5V102
          have r6u102 := Lib.hid (r6V102.out.kept hk102)
          clear r6V102
          have r7u102 := Lib.hid (r7V102.out.kept hk102)
          clear r7V102
          have r11u102 := Lib.hid (r11V102.out.kept hk102)
          clear r11V102
          have r12u102 := Lib.hid (r12V102.out.kept hk102)
          clear r12V102
          have kwu102 := Lib.hid (kwV102.out.trans hk102)
          clear hk102
          clear cr50 cr51 lr5 cr60 cr61 lr6 cr70 cr71 cr72 cr73 cr74 lr7 cr110 cr111 cr112 cr113 cr114 lr11 cr120 cr121 cr122 lr12
          have cr50 := (r5u102.out 0 _ rfl).1
          have cr51 := (r5u102.out 1 _ rfl).1
          have lr5 := cell_lt cr50
          have cr60 := (r6u102.out 0 _ rfl).1
          have cr61 := (r6u102.out 1 _ rfl).1
          have lr6 := cell_lt cr60
          have cr70 := (r7u102.out 0 _ rfl).1
          have cr71 := (r7u102.out 1 _ rfl).1
          have cr72 := (r7u102.out 2 _ rfl).1
          have cr73 := (r7u102.out 3 _ rfl).1
          have cr74 := (r7u102.out 4 _ rfl).1
          have lr7 := cell_lt cr70
          have cr110 := (r11u102.out 0 _ rfl).1
          have cr111 := (r11u102.out 1 _ rfl).1
          have cr112 := (r11u102.out 2 _ rfl).1
          have cr113 := (r11u102.out 3 _ rfl).1
          have cr114 := (r11u102.out 4 _ rfl).1
          have lr11 := cell_lt cr110
          have cr120 := (r12u102.out 0 _ rfl).1
          have cr121 := (r12u102.out 1 _ rfl).1
          have cr122 := (r12u102.out 2 _ rfl).1
          have lr12 := cell_lt cr120
          go_wp2_with fail
          obtain ⟨V103, hV103⟩ : ∃ V103, V103 = u102.alloc (.cells #[.int .i64 y1, .int .i64 y2, .bool y3] 34) := ⟨_, rfl⟩
          rw [← hV103]
          have kV103 : Kept u102 V103 := by rw [hV103]; exact (Kept.refl _).alloc _
          have r5V103 := Lib.hid (r5u102.out.kept kV103)
          clear r5u102
          have r6V103 := Lib.hid (r6u102.out.kept kV103)
          clear r6u102
          have r7V103 := Lib.hid (r7u102.out.kept kV103)
          clear r7u102
          have r11V103 := Lib.hid (r11u102.out.kept kV103)
          clear r11u102
          have r12V103 := Lib.hid (r12u102.out.kept kV103)
          clear r12u102
          have r14V103 : RowKit.Hid (RowC V103 (u102.heap.size) [.int .i64 y1, .int .i64 y2, .bool y3]) := Lib.hid (by rw [hV103]; exact (RowC.new _ _ 34))
          have kwV103 := Lib.hid (kwu102.out.trans kV103)
          clear hV103 kV103
          clear cr50 cr51 lr5 cr60 cr61 lr6 cr70 cr71 cr72 cr73 cr74 lr7 cr110 cr111 cr112 cr113 cr114 lr11 cr120 cr121 cr122 lr12
          have cr50 := (r5V103.out 0 _ rfl).1
          have cr51 := (r5V103.out 1 _ rfl).1
          have lr5 := cell_lt cr50
          have cr60 := (r6V103.out 0 _ rfl).1
          have cr61 := (r6V103.out 1 _ rfl).1
          have lr6 := cell_lt cr60
          have cr70 := (r7V103.out 0 _ rfl).1
          have cr71 := (r7V103.out 1 _ rfl).1
          have cr72 := (r7V103.out 2 _ rfl).1
          have cr73 := (r7V103.out 3 _ rfl).1
          have cr74 := (r7V103.out 4 _ rfl).1
          have lr7 := cell_lt cr70
          have cr110 := (r11V103.out 0 _ rfl).1
          have cr111 := (r11V103.out 1 _ rfl).1
          have cr112 := (r11V103.out 2 _ rfl).1
          have cr113 := (r11V103.out 3 _ rfl).1
          have cr114 := (r11V103.out 4 _ rfl).1
          have lr11 := cell_lt cr110
          have cr120 := (r12V103.out 0 _ rfl).1
          have cr121 := (r12V103.out 1 _ rfl).1
          have cr122 := (r12V103.out 2 _ rfl).1
          have lr12 := cell_lt cr120
          have cr140 := (r14V103.out 0 _ rfl).1
          have cr141 := (r14V103.out 1 _ rfl).1
          have cr142 := (r14V103.out 2 _ rfl).1
          have lr14 := cell_lt cr140
          refine (H3.out _).mono ?_
          rintro e u103 ⟨rfl, hk103⟩
          have r5u103 := Lib.hid (r5V103.out.kept hk103)
          clear r5V103
          have r6u103 := Lib.hid (r6V103.out.kept hk103)
          clear r6V103
          have r7u103 := Lib.hid (r7V103.out.kept hk103)
          clear r7V103
          have r11u103 := Lib.hid (r11V103.out.kept hk103)
          clear r11V103
          have r12u103 := Lib.hid (r12V103.out.kept hk103)
          clear r12V103
          have r14u103 := Lib.hid (r14V103.out.kept hk103)
          clear r14V103
          have kwu103 := Lib.hid (kwV103.out.trans hk103)
          clear hk103
          clear cr50 cr51 lr5 cr60 cr61 lr6 cr70 cr71 cr72 cr73 cr74 lr7 cr110 cr111 cr112 cr113 cr114 lr11 cr120 cr121 cr122 lr12 cr140 cr141 cr142 lr14
          have cr50 := (r5u103.out 0 _ rfl).1
          have cr51 := (r5u103.out 1 _ rfl).1
          have lr5 := cell_lt cr50
          have cr60 := (r6u103.out 0 _ rfl).1
          have cr61 := (r6u103.out 1 _ rfl).1
          have lr6 := cell_lt cr60
          have cr70 := (r7u103.out 0 _ rfl).1
          have cr71 := (r7u103.out 1 _ rfl).1
          have cr72 := (r7u103.out 2 _ rfl).1
          have cr73 := (r7u103.out 3 _ rfl).1
          have cr74 := (r7u103.out 4 _ rfl).1
          have lr7 := cell_lt cr70
          have cr110 := (r11u103.out 0 _ rfl).1
          have cr111 := (r11u103.out 1 _ rfl).1
          have cr112 := (r11u103.out 2 _ rfl).1
          have cr113 := (r11u103.out 3 _ rfl).1
          have cr114 := (r11u103.out 4 _ rfl).1
          have lr11 := cell_lt cr110
          have cr120 := (r12u103.out 0 _ rfl).1
          have cr121 := (r12u103.out 1 _ rfl).1
          have cr122 := (r12u103.out 2 _ rfl).1
          have lr12 := cell_lt cr120
          have cr140 := (r14u103.out 0 _ rfl).1
          have cr141 := (r14u103.out 1 _ rfl).1
          have cr142 := (r14u103.out 2 _ rfl).1
          have lr14 := cell_lt cr140
          go_wp2_with fail
          obtain ⟨V104, hV104⟩ : ∃ V104, V104 = u103.alloc (.cells #[.int .i64 z1, .int .i64 z2, .bool z3] 34) := ⟨_, rfl⟩
          rw [← hV104]
          have kV104 : Kept u103 V104 := by rw [hV104]; exact (Kept.refl _).alloc _
          have r5V104 := Lib.hid (r5u103.out.kept kV104)
          clear r5u103
          have r6V104 := Lib.hid (r6u103.out.kept kV104)
          clear r6u103
          have r7V104 := Lib.hid (r7u103.out.kept kV104)
          clear r7u103
          have r11V104 := Lib.hid (r11u103.out.kept kV104)
          clear r11u103
          have r12V104 := Lib.hid (r12u103.out.kept kV104)
          clear r12u103
          have r14V104 := Lib.hid (r14u103.out.kept kV104)
          clear r14u103
          have r16V104 : RowKit.Hid (RowC V104 (u103.heap.size) [.int .i64 z1, .int .i64 z2, .bool z3]) := Lib.hid (by rw [hV104]; exact (RowC.new _ _ 34))
          have kwV104 := Lib.hid (kwu103.out.trans kV104)
          clear hV104 kV104
          clear cr50 cr51 lr5 cr60 cr61 lr6 cr70 cr71 cr72 cr73 cr74 lr7 cr110 cr111 cr112 cr113 cr114 lr11 cr120 cr121 cr122 lr12 cr140 cr141 cr142 lr14
          have cr50 := (r5V104.out 0 _ rfl).1
          have cr51 := (r5V104.out 1 _ rfl).1
          have lr5 := cell_lt cr50
          have cr60 := (r6V104.out 0 _ rfl).1
          have cr61 := (r6V104.out 1 _ rfl).1
          have lr6 := cell_lt cr60
          have cr70 := (r7V104.out 0 _ rfl).1
          have cr71 := (r7V104.out 1 _ rfl).1
          have cr72 := (r7V104.out 2 _ rfl).1
          have cr73 := (r7V104.out 3 _ rfl).1
          have cr74 := (r7V104.out 4 _ rfl).1
          have lr7 := cell_lt cr70
          have cr110 := (r11V104.out 0 _ rfl).1
          have cr111 := (r11V104.out 1 _ rfl).1
          have cr112 := (r11V104.out 2 _ rfl).1
          have cr113 := (r11V104.out 3 _ rfl).1
          have cr114 := (r11V104.out 4 _ rfl).1
          have lr11 := cell_lt cr110
          have cr120 := (r12V104.out 0 _ rfl).1
          have cr121 := (r12V104.out 1 _ rfl).1
          have cr122 := (r12V104.out 2 _ rfl).1
          have lr12 := cell_lt cr120
          have cr140 := (r14V104.out 0 _ rfl).1
          have cr141 := (r14V104.out 1 _ rfl).1
          have cr142 := (r14V104.out 2 _ rfl).1
          have lr14 := cell_lt cr140
          have cr160 := (r16V104.out 0 _ rfl).1
          have cr161 := (r16V104.out 1 _ rfl).1
          have cr162 := (r16V104.out 2 _ rfl).1
          have lr16 := cell_lt cr160
          refine (counted_any _).mono ?_
          rintro e u104 ⟨rfl, hk104⟩
          have r5u104 := Lib.hid (r5V104.out.kept hk104)
          clear r5V104
          have r6u104 := Lib.hid (r6V104.out.kept hk104)
          clear r6V104
          have r7u104 := Lib.hid (r7V104.out.kept hk104)
          clear r7V104
          have r11u104 := Lib.hid (r11V104.out.kept hk104)
          clear r11V104
          have r12u104 := Lib.hid (r12V104.out.kept hk104)
          clear r12V104
          have r14u104 := Lib.hid (r14V104.out.kept hk104)
          clear r14V104
          have r16u104 := Lib.hid (r16V104.out.kept hk104)
          clear r16V104
          have kwu104 := Lib.hid (kwV104.out.trans hk104)
          clear hk104
          clear cr50 cr51 lr5 cr60 cr61 lr6 cr70 cr71 cr72 cr73 cr74 lr7 cr110 cr111 cr112 cr113 cr114 lr11 cr120 cr121 cr122 lr12 cr140 cr141 cr142 lr14 cr160 cr161 cr162 lr16
          have cr50 := (r5u104.out 0 _ rfl).1
          have cr51 := (r5u104.out 1 _ rfl).1
          have lr5 := cell_lt cr50
          have cr60 := (r6u104.out 0 _ rfl).1
          have cr61 := (r6u104.out 1 _ rfl).1
          have lr6 := cell_lt cr60
          have cr70 := (r7u104.out 0 _ rfl).1
          have cr71 := (r7u104.out 1 _ rfl).1
          have cr72 := (r7u104.out 2 _ rfl).1
          have cr73 := (r7u104.out 3 _ rfl).1
          have cr74 := (r7u104.out 4 _ rfl).1
          have lr7 := cell_lt cr70
          have cr110 := (r11u104.out 0 _ rfl).1
          have cr111 := (r11u104.out 1 _ rfl).1
          have cr112 := (r11u104.out 2 _ rfl).1
          have cr113 := (r11u104.out 3 _ rfl).1
          have cr114 := (r11u104.out 4 _ rfl).1
          have lr11 := cell_lt cr110
          have cr120 := (r12u104.out 0 _ rfl).1
          have cr121 := (r12u104.out 1 _ rfl).1
          have cr122 := (r12u104.out 2 _ rfl).1
          have lr12 := cell_lt cr120
          have cr140 := (r14u104.out 0 _ rfl).1
          have cr141 := (r14u104.out 1 _ rfl).1
          have cr142 := (r14u104.out 2 _ rfl).1
          have lr14 := cell_lt cr140
          have cr160 := (r16u104.out 0 _ rfl).1
          have cr161 := (r16u104.out 1 _ rfl).1
          have cr162 := (r16u104.out 2 _ rfl).1
          have lr16 := cell_lt cr160
          go_wp2_with fail
          obtain ⟨V105, hV105⟩ : ∃ V105, V105 = u104 := ⟨_, rfl⟩
          rw [← hV105]
          have kV105 : Kept u104 V105 := by rw [hV105]; exact Kept.refl _
          have r5V105 := Lib.hid (r5u104.out.kept kV105)
          clear r5u104
          have r6V105 := Lib.hid (r6u104.out.kept kV105)
          clear r6u104
          have r7V105 := Lib.hid (r7u104.out.kept kV105)
          clear r7u104
          have r11V105 := Lib.hid (r11u104.out.kept kV105)
          clear r11u104
          have r12V105 := Lib.hid (r12u104.out.kept kV105)
          clear r12u104
          have r14V105 := Lib.hid (r14u104.out.kept kV105)
          clear r14u104
          have r16V105 := Lib.hid (r16u104.out.kept kV105)
          clear r16u104
          have kwV105 := Lib.hid (kwu104.out.trans kV105)
          clear hV105 kV105
          clear cr50 cr51 lr5 cr60 cr61 lr6 cr70 cr71 cr72 cr73 cr74 lr7 cr110 cr111 cr112 cr113 cr114 lr11 cr120 cr121 cr122 lr12 cr140 cr141 cr142 lr14 cr160 cr161 cr162 lr16
          have cr50 := (r5V105.out 0 _ rfl).1
          have cr51 := (r5V105.out 1 _ rfl).1
          have lr5 := cell_lt cr50
          have cr60 := (r6V105.out 0 _ rfl).1
          have cr61 := (r6V105.out 1 _ rfl).1
          have lr6 := cell_lt cr60
          have cr70 := (r7V105.out 0 _ rfl).1
          have cr71 := (r7V105.out 1 _ rfl).1
          have cr72 := (r7V105.out 2 _ rfl).1
          have cr73 := (r7V105.out 3 _ rfl).1
          have cr74 := (r7V105.out 4 _ rfl).1
          have lr7 := cell_lt cr70
          have cr110 := (r11V105.out 0 _ rfl).1
          have cr111 := (r11V105.out 1 _ rfl).1
          have cr112 := (r11V105.out 2 _ rfl).1
          have cr113 := (r11V105.out 3 _ rfl).1
          have cr114 := (r11V105.out 4 _ rfl).1
          have lr11 := cell_lt cr110
          have cr120 := (r12V105.out 0 _ rfl).1
          have cr121 := (r12V105.out 1 _ rfl).1
          have cr122 := (r12V105.out 2 _ rfl).1
          have lr12 := cell_lt cr120
          have cr140 := (r14V105.out 0 _ rfl).1
          have cr141 := (r14V105.out 1 _ rfl).1
          have cr142 := (r14V105.out 2 _ rfl).1
          have lr14 := cell_lt cr140
          have cr160 := (r16V105.out 0 _ rfl).1
          have cr161 := (r16V105.out 1 _ rfl).1
          have cr162 := (r16V105.out 2 _ rfl).1
          have lr16 := cell_lt cr160
          refine (HX.out _).mono ?_
          rintro e u105 ⟨rfl, hk105⟩
          have r5u105 := Lib.hid (r5V105.out.kept hk105)
          clear r5V105
          have r6u105 := Lib.hid (r6V105.out.kept hk105)
          clear r6V105
          have r7u105 := Lib.hid (r7V105.out.kept hk105)
          clear r7V105
          have r11u105 := Lib.hid (r11V105.out.kept hk105)
          clear r11V105
          have r12u105 := Lib.hid (r12V105.out.kept hk105)
          clear r12V105
          have r14u105 := Lib.hid (r14V105.out.kept hk105)
          clear r14V105
          have r16u105 := Lib.hid (r16V105.out.kept hk105)
          clear r16V105
          have kwu105 := Lib.hid (kwV105.out.trans hk105)
          clear hk105
          clear cr50 cr51 lr5 cr60 cr61 lr6 cr70 cr71 cr72 cr73 cr74 lr7 cr110 cr111 cr112 cr113 cr114 lr11 cr120 cr121 cr122 lr12 cr140 cr141 cr142 lr14 cr160 cr161 cr162 lr16
          have cr50 := (r5u105.out 0 _ rfl).1
          have cr51 := (r5u105.out 1 _ rfl).1
          have lr5 := cell_lt cr50
          have cr60 := (r6u105.out 0 _ rfl).1
          have cr61 := (r6u105.out 1 _ rfl).1
          have lr6 := cell_lt cr60
          have cr70 := (r7u105.out 0 _ rfl).1
          have cr71 := (r7u105.out 1 _ rfl).1
          have cr72 := (r7u105.out 2 _ rfl).1
          have cr73 := (r7u105.out 3 _ rfl).1
          have cr74 := (r7u105.out 4 _ rfl).1
          have lr7 := cell_lt cr70
          have cr110 := (r11u105.out 0 _ rfl).1
          have cr111 := (r11u105.out 1 _ rfl).1
          have cr112 := (r11u105.out 2 _ rfl).1
          have cr113 := (r11u105.out 3 _ rfl).1
          have cr114 := (r11u105.out 4 _ rfl).1
          have lr11 := cell_lt cr110
          have cr120 := (r12u105.out 0 _ rfl).1
          have cr121 := (r12u105.out 1 _ rfl).1
          have cr122 := (r12u105.out 2 _ rfl).1
          have lr12 := cell_lt cr120
          have cr140 := (r14u105.out 0 _ rfl).1
          have cr141 := (r14u105.out 1 _ rfl).1
          have cr142 := (r14u105.out 2 _ rfl).1
          have lr14 := cell_lt cr140
          have cr160 := (r16u105.out 0 _ rfl).1
          have cr161 := (r16u105.out 1 _ rfl).1
          have cr162 := (r16u105.out 2 _ rfl).1
          have lr16 := cell_lt cr160
          go_wp2_with fail
          obtain ⟨V106, hV106⟩ : ∃ V106, V106 = u105 := ⟨_, rfl⟩
          rw [← hV106]
          have kV106 : Kept u105 V106 := by rw [hV106]; exact Kept.refl _
          have r5V106 := Lib.hid (r5u105.out.kept kV106)
          clear r5u105
          have r6V106 := Lib.hid (r6u105.out.kept kV106)
          clear r6u105
          have r7V106 := Lib.hid (r7u105.out.kept kV106)
          clear r7u105
          have r11V106 := Lib.hid (r11u105.out.kept kV106)
          clear r11u105
          have r12V106 := Lib.hid (r12u105.out.kept kV106)
          clear r12u105
          have r14V106 := Lib.hid (r14u105.out.kept kV106)
          clear r14u105
          have r16V106 := Lib.hid (r16u105.out.kept kV106)
          clear r16u105
          have kwV106 := Lib.hid (kwu105.out.trans kV106)
          clear hV106 kV106
          clear cr50 cr51 lr5 cr60 cr61 lr6 cr70 cr71 cr72 cr73 cr74 lr7 cr110 cr111 cr112 cr113 cr114 lr11 cr120 cr121 cr122 lr12 cr140 cr141 cr142 lr14 cr160 cr161 cr162 lr16
          have cr50 := (r5V106.out 0 _ rfl).1
          have cr51 := (r5V106.out 1 _ rfl).1
          have lr5 := cell_lt cr50
          have cr60 := (r6V106.out 0 _ rfl).1
          have cr61 := (r6V106.out 1 _ rfl).1
          have lr6 := cell_lt cr60
          have cr70 := (r7V106.out 0 _ rfl).1
          have cr71 := (r7V106.out 1 _ rfl).1
          have cr72 := (r7V106.out 2 _ rfl).1
          have cr73 := (r7V106.out 3 _ rfl).1
          have cr74 := (r7V106.out 4 _ rfl).1
          have lr7 := cell_lt cr70
          have cr110 := (r11V106.out 0 _ rfl).1
          have cr111 := (r11V106.out 1 _ rfl).1
          have cr112 := (r11V106.out 2 _ rfl).1
          have cr113 := (r11V106.out 3 _ rfl).1
          have cr114 := (r11V106.out 4 _ rfl).1
          have lr11 := cell_lt cr110
          have cr120 := (r12V106.out 0 _ rfl).1
          have cr121 := (r12V106.out 1 _ rfl).1
          have cr122 := (r12V106.out 2 _ rfl).1
          have lr12 := cell_lt cr120
          have cr140 := (r14V106.out 0 _ rfl).1
          have cr141 := (r14V106.out 1 _ rfl).1
          have cr142 := (r14V106.out 2 _ rfl).1
          have lr14 := cell_lt cr140
          have cr160 := (r16V106.out 0 _ rfl).1
          have cr161 := (r16V106.out 1 _ rfl).1
          have cr162 := (r16V106.out 2 _ rfl).1
          have lr16 := cell_lt cr160
          refine (HY.out _).mono ?_
          rintro e u106 ⟨rfl, hk106⟩
          have r5u106 := Lib.hid (r5V106.out.kept hk106)
          clear r5V106
          have r6u106 := Lib.hid (r6V106.out.kept hk106)
          clear r6V106
          have r7u106 := Lib.hid (r7V106.out.kept hk106)
          clear r7V106
          have r11u106 := Lib.hid (r11V106.out.kept hk106)
          clear r11V106
          have r12u106 := Lib.hid (r12V106.out.kept hk106)
          clear r12V106
          have r14u106 := Lib.hid (r14V106.out.kept hk106)
          clear r14V106
          have r16u106 := Lib.hid (r16V106.out.kept hk106)
          clear r16V106
          have kwu106 := Lib.hid (kwV106.out.trans hk106)
          clear hk106
          clear cr50 cr51 lr5 cr60 cr61 lr6 cr70 cr71 cr72 cr73 cr74 lr7 cr110 cr111 cr112 cr113 cr114 lr11 cr120 cr121 cr122 lr12 cr140 cr141 cr142 lr14 cr160 cr161 cr162 lr16
          have cr50 := (r5u106.out 0 _ rfl).1
          have cr51 := (r5u106.out 1 _ rfl).1
          have lr5 := cell_lt cr50
          have cr60 := (r6u106.out 0 _ rfl).1
          have cr61 := (r6u106.out 1 _ rfl).1
          have lr6 := cell_lt cr60
          have cr70 := (r7u106.out 0 _ rfl).1
          have cr71 := (r7u106.out 1 _ rfl).1
          have cr72 := (r7u106.out 2 _ rfl).1
          have cr73 := (r7u106.out 3 _ rfl).1
          have cr74 := (r7u106.out 4 _ rfl).1
          have lr7 := cell_lt cr70
          have cr110 := (r11u106.out 0 _ rfl).1
          have cr111 := (r11u106.out 1 _ rfl).1
          have cr112 := (r11u106.out 2 _ rfl).1
          have cr113 := (r11u106.out 3 _ rfl).1
          have cr114 := (r11u106.out 4 _ rfl).1
          have lr11 := cell_lt cr110
          have cr120 := (r12u106.out 0 _ rfl).1
          have cr121 := (r12u106.out 1 _ rfl).1
          have cr122 := (r12u106.out 2 _ rfl).1
          have lr12 := cell_lt cr120
          have cr140 := (r14u106.out 0 _ rfl).1
          have cr141 := (r14u106.out 1 _ rfl).1
          have cr142 := (r14u106.out 2 _ rfl).1
          have lr14 := cell_lt cr140
          have cr160 := (r16u106.out 0 _ rfl).1
          have cr161 := (r16u106.out 1 _ rfl).1
          have cr162 := (r16u106.out 2 _ rfl).1
          have lr16 := cell_lt cr160
          go_wp2_with fail
          obtain ⟨V107, hV107⟩ : ∃ V107, V107 = u106 := ⟨_, rfl⟩
          rw [← hV107]
          have kV107 : Kept u106 V107 := by rw [hV107]; exact Kept.refl _
          have r5V107 := Lib.hid (r5u106.out.kept kV107)
          clear r5u106
          have r6V107 := Lib.hid (r6u106.out.kept kV107)
          clear r6u106
          have r7V107 := Lib.hid (r7u106.out.kept kV107)
          clear r7u106
          have r11V107 := Lib.hid (r11u106.out.kept kV107)
          clear r11u106
          have r12V107 := Lib.hid (r12u106.out.kept kV107)
          clear r12u106
          have r14V107 := Lib.hid (r14u106.out.kept kV107)
          clear r14u106
          have r16V107 := Lib.hid (r16u106.out.kept kV107)
          clear r16u106
          have kwV107 := Lib.hid (kwu106.out.trans kV107)
          clear hV107 kV107
          clear cr50 cr51 lr5 cr60 cr61 lr6 cr70 cr71 cr72 cr73 cr74 lr7 cr110 cr111 cr112 cr113 cr114 lr11 cr120 cr121 cr122 lr12 cr140 cr141 cr142 lr14 cr160 cr161 cr162 lr16
          have cr50 := (r5V107.out 0 _ rfl).1
          have cr51 := (r5V107.out 1 _ rfl).1
          have lr5 := cell_lt cr50
          have cr60 := (r6V107.out 0 _ rfl).1
          have cr61 := (r6V107.out 1 _ rfl).1
          have lr6 := cell_lt cr60
          have cr70 := (r7V107.out 0 _ rfl).1
          have cr71 := (r7V107.out 1 _ rfl).1
          have cr72 := (r7V107.out 2 _ rfl).1
          have cr73 := (r7V107.out 3 _ rfl).1
          have cr74 := (r7V107.out 4 _ rfl).1
          have lr7 := cell_lt cr70
          have cr110 := (r11V107.out 0 _ rfl).1
          have cr111 := (r11V107.out 1 _ rfl).1
          have cr112 := (r11V107.out 2 _ rfl).1
          have cr113 := (r11V107.out 3 _ rfl).1
          have cr114 := (r11V107.out 4 _ rfl).1
          have lr11 := cell_lt cr110
          have cr120 := (r12V107.out 0 _ rfl).1
          have cr121 := (r12V107.out 1 _ rfl).1
          have cr122 := (r12V107.out 2 _ rfl).1
          have lr12 := cell_lt cr120
          have cr140 := (r14V107.out 0 _ rfl).1
          have cr141 := (r14V107.out 1 _ rfl).1
          have cr142 := (r14V107.out 2 _ rfl).1
          have lr14 := cell_lt cr140
          have cr160 := (r16V107.out 0 _ rfl).1
          have cr161 := (r16V107.out 1 _ rfl).1
          have cr162 := (r16V107.out 2 _ rfl).1
          have lr16 := cell_lt cr160
          refine (HZ.out _).mono ?_
          rintro e u107 ⟨rfl, hk107⟩
          have r5u107 := Lib.hid (r5V107.out.kept hk107)
          clear r5V107
          have r6u107 := Lib.hid (r6V107.out.kept hk107)
          clear r6V107
          have r7u107 := Lib.hid (r7V107.out.kept hk107)
          clear r7V107
          have r11u107 := Lib.hid (r11V107.out.kept hk107)
          clear r11V107
          have r12u107 := Lib.hid (r12V107.out.kept hk107)
          clear r12V107
          have r14u107 := Lib.hid (r14V107.out.kept hk107)
          clear r14V107
          have r16u107 := Lib.hid (r16V107.out.kept hk107)
          clear r16V107
          have kwu107 := Lib.hid (kwV107.out.trans hk107)
          clear hk107
          clear cr50 cr51 lr5 cr60 cr61 lr6 cr70 cr71 cr72 cr73 cr74 lr7 cr110 cr111 cr112 cr113 cr114 lr11 cr120 cr121 cr122 lr12 cr140 cr141 cr142 lr14 cr160 cr161 cr162 lr16
          have cr50 := (r5u107.out 0 _ rfl).1
          have cr51 := (r5u107.out 1 _ rfl).1
          have lr5 := cell_lt cr50
          have cr60 := (r6u107.out 0 _ rfl).1
          have cr61 := (r6u107.out 1 _ rfl).1
          have lr6 := cell_lt cr60
          have cr70 := (r7u107.out 0 _ rfl).1
          have cr71 := (r7u107.out 1 _ rfl).1
          have cr72 := (r7u107.out 2 _ rfl).1
          have cr73 := (r7u107.out 3 _ rfl).1
          have cr74 := (r7u107.out 4 _ rfl).1
          have lr7 := cell_lt cr70
          have cr110 := (r11u107.out 0 _ rfl).1
          have cr111 := (r11u107.out 1 _ rfl).1
          have cr112 := (r11u107.out 2 _ rfl).1
          have cr113 := (r11u107.out 3 _ rfl).1
          have cr114 := (r11u107.out 4 _ rfl).1
          have lr11 := cell_lt cr110
          have cr120 := (r12u107.out 0 _ rfl).1
          have cr121 := (r12u107.out 1 _ rfl).1
          have cr122 := (r12u107.out 2 _ rfl).1
          have lr12 := cell_lt cr120
          have cr140 := (r14u107.out 0 _ rfl).1
          have cr141 := (r14u107.out 1 _ rfl).1
          have cr142 := (r14u107.out 2 _ rfl).1
          have lr14 := cell_lt cr140
          have cr160 := (r16u107.out 0 _ rfl).1
          have cr161 := (r16u107.out 1 _ rfl).1
          have cr162 := (r16u107.out 2 _ rfl).1
          have lr16 := cell_lt cr160
          go_wp2
          go_ret
          exact ⟨rfl, kwu107.out⟩
end Go.Proofs.Ytjaicilnlgjdcaa
