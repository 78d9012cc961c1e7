/- allowedBy; the reference's least, greatest, span -/
import Derived.Test.YtjaicilnlgjdcaaTg
namespace Go.Proofs.Ytjaicilnlgjdcaa
set_option linter.all false
open Go.RowKit

theorem allowedBy_any (m d i dy s n x : Int) (hm : 0 ≤ m) (hm1 : m ≤ 500) (hd : 0 ≤ d) (hd1 : d ≤ 500) (hn : 0 ≤ n) (hn1 : n ≤ 200000) (hx : 0 ≤ x) (hx1 : x ≤ 10000) (w : World) :
    Calls Try.prog 75 #[.agg #[.int .i64 m, .int .i64 d], .agg #[.int .i64 i, .int .i64 dy, .int .i64 s, .int .i64 n, .int .i64 x]] w fun e w' => e = .returned (.agg #[.int .i64 (spL (leastOf d n) (mostOf m (n + x))), .int .i64 (spH (leastOf d n) (mostOf m (n + x))), .bool (spS (leastOf d n) (mostOf m (n + x)))]) ∧ Kept w w' := by
  obtain ⟨W0, hW0⟩ : ∃ W0, W0 = ((w.alloc (.cells #[.int .i64 m, .int .i64 d] 23)).alloc (.cells #[.int .i64 i, .int .i64 dy, .int .i64 s, .int .i64 n, .int .i64 x] 25)).alloc (.cells #[.int .i64 0, .int .i64 0, .bool false] 83) := ⟨_, rfl⟩
  have k0 : Kept w W0 := by rw [hW0]; exact ((((Kept.refl _).alloc _).alloc _).alloc _)
  have c00 : W0.cell? ⟨w.heap.size, 0, none⟩ = some (.int .i64 m) := by rw [hW0]; exact cellOld _ (cellOld _ (cellNew (by simp) rfl))
  have c01 : W0.cell? ⟨w.heap.size, 1, none⟩ = some (.int .i64 d) := by rw [hW0]; exact cellOld _ (cellOld _ (cellNew (by simp) rfl))
  have c10 : W0.cell? ⟨w.heap.size + 1, 0, none⟩ = some (.int .i64 i) := by rw [hW0]; exact cellOld _ (cellNew (by simp) rfl)
  have c11 : W0.cell? ⟨w.heap.size + 1, 1, none⟩ = some (.int .i64 dy) := by rw [hW0]; exact cellOld _ (cellNew (by simp) rfl)
  have c12 : W0.cell? ⟨w.heap.size + 1, 2, none⟩ = some (.int .i64 s) := by rw [hW0]; exact cellOld _ (cellNew (by simp) rfl)
  have c13 : W0.cell? ⟨w.heap.size + 1, 3, none⟩ = some (.int .i64 n) := by rw [hW0]; exact cellOld _ (cellNew (by simp) rfl)
  have c14 : W0.cell? ⟨w.heap.size + 1, 4, none⟩ = some (.int .i64 x) := by rw [hW0]; exact cellOld _ (cellNew (by simp) rfl)
  have c20 : W0.cell? ⟨w.heap.size + 1 + 1, 0, none⟩ = some (.int .i64 0) := by rw [hW0]; exact cellNew (by simp) rfl
  have f20 : W0.frozen? ⟨w.heap.size + 1 + 1, 0, none⟩ = false := by rw [hW0]; simp [go_sem]
  have c21 : W0.cell? ⟨w.heap.size + 1 + 1, 1, none⟩ = some (.int .i64 0) := by rw [hW0]; exact cellNew (by simp) rfl
  have f21 : W0.frozen? ⟨w.heap.size + 1 + 1, 1, none⟩ = false := by rw [hW0]; simp [go_sem]
  have c22 : W0.cell? ⟨w.heap.size + 1 + 1, 2, none⟩ = some (.bool false) := by rw [hW0]; exact cellNew (by simp) rfl
  have f22 : W0.frozen? ⟨w.heap.size + 1 + 1, 2, none⟩ = false := by rw [hW0]; simp [go_sem]
  have BR : RowKit.Hid (∀ W, Kept W0 W → W.cell? ⟨w.heap.size, 0, none⟩ = some (.int .i64 m) ∧ W.cell? ⟨w.heap.size, 1, none⟩ = some (.int .i64 d) ∧ W.cell? ⟨w.heap.size + 1, 0, none⟩ = some (.int .i64 i) ∧ W.cell? ⟨w.heap.size + 1, 1, none⟩ = some (.int .i64 dy) ∧ W.cell? ⟨w.heap.size + 1, 2, none⟩ = some (.int .i64 s) ∧ W.cell? ⟨w.heap.size + 1, 3, none⟩ = some (.int .i64 n) ∧ W.cell? ⟨w.heap.size + 1, 4, none⟩ = some (.int .i64 x) ∧ W.cell? ⟨w.heap.size + 1 + 1, 0, none⟩ = some (.int .i64 0) ∧ W.frozen? ⟨w.heap.size + 1 + 1, 0, none⟩ = false ∧ W.cell? ⟨w.heap.size + 1 + 1, 1, none⟩ = some (.int .i64 0) ∧ W.frozen? ⟨w.heap.size + 1 + 1, 1, none⟩ = false ∧ W.cell? ⟨w.heap.size + 1 + 1, 2, none⟩ = some (.bool false) ∧ W.frozen? ⟨w.heap.size + 1 + 1, 2, none⟩ = false) := Lib.hid (fun W hW => ⟨(hW.cells _ _ (cell_lt c00)).trans c00, (hW.cells _ _ (cell_lt c01)).trans c01, (hW.cells _ _ (cell_lt c10)).trans c10, (hW.cells _ _ (cell_lt c11)).trans c11, (hW.cells _ _ (cell_lt c12)).trans c12, (hW.cells _ _ (cell_lt c13)).trans c13, (hW.cells _ _ (cell_lt c14)).trans c14, (hW.cells _ _ (cell_lt c20)).trans c20, (hW.frozens _ _ (cell_lt c20)).trans f20, (hW.cells _ _ (cell_lt c21)).trans c21, (hW.frozens _ _ (cell_lt c21)).trans f21, (hW.cells _ _ (cell_lt c22)).trans c22, (hW.frozens _ _ (cell_lt c22)).trans f22⟩)
  have Z0 : W0.heap.size = w.heap.size + 1 + 1 + 1 := by rw [hW0]; simp
  have ZZ := Lib.hid Z0
  have HW := Lib.hid hW0
  have K0 := Lib.hid k0
  clear hW0 k0 Z0
  have kk := Kept.refl W0
  have b0 := cell_lt c00
  have b1 := cell_lt c10
  have b2 := cell_lt c20
  obtain ⟨y0, hy0⟩ : ∃ y, y = spL (leastOf d n) (mostOf m (n + x)) := ⟨_, rfl⟩
  obtain ⟨y1, hy1⟩ : ∃ y, y = spH (leastOf d n) (mostOf m (n + x)) := ⟨_, rfl⟩
  obtain ⟨y2, hy2⟩ : ∃ y, y = spS (leastOf d n) (mostOf m (n + x)) := ⟨_, rfl⟩
  have HC : RowKit.Hid (∀ W, Kept W0 W → Calls Try.prog 71 #[.agg #[.int .i64 m, .int .i64 d], .int .i64 n, .int .i64 (n + x)] W fun e w' => e = .returned (.agg #[.int .i64 y0, .int .i64 y1, .bool y2]) ∧ Kept W w') := Lib.hid (fun W hW => by
    rw [hy0, hy1, hy2]; exact allowed_any m d n (n + x) hm hm1 hd hd1 (by omega) W)
  rw [← hy0, ← hy1, ← hy2]
  clear hy0 hy1 hy2
  go_enter Try.func75, Try.ntmps75
  go_upto_region 1 with (fail)
  rw [← HW.out]
  go_wp2_with (first
        | (go_at_call 71; refine (HC.out _ kk).mono ?_; rintro e w1 ⟨rfl, hk⟩; replace kk := (by first | with_reducible exact kk.trans hk | with_reducible exact (kk.alloc _).trans hk | with_reducible exact kk.drew.trans hk | with_reducible exact (kk.drew.alloc _).trans hk | with_reducible exact (kk.alloc _).drew.trans hk | with_reducible exact ((kk.alloc _).alloc _).trans hk | with_reducible exact ((kk.drew.alloc _).alloc _).trans hk | fail); obtain ⟨c00, c01, c10, c11, c12, c13, c14, c20, f20, c21, f21, c22, f22⟩ := BR.out _ kk; have b0 := cell_lt c00; have b1 := cell_lt c10; have b2 := cell_lt c20)
        | fail)
  refine bodyPost_ret (v := .agg #[.int .i64 y0, .int .i64 y1, .bool y2]) (by simp [results, Try.results75, go_sem, c20, c21, c22]) rfl ⟨rfl, ?_⟩
  exact (((K0.out.trans kk).setCell (by simp; try omega) _).setCell (by simp; try omega) _).setCell (by simp; try omega) _

theorem span_any (a b : Int) (w : World) :
    Calls Try.prog 72 #[.int .i64 a, .int .i64 b] w fun e w' => e = .returned (.agg #[.int .i64 (spL a b), .int .i64 (spH a b), .bool (spS a b)]) ∧ Kept w w' := by
  by_cases h : a ≤ b
  · have e0 : spL a b = a := if_pos h
    have e1 : spH a b = b := if_pos h
    have e2 : spS a b = true := decide_eq_true h
    rw [e0, e1, e2]
    clear e0 e1 e2
    go_enter Try.func72, Try.ntmps72
    go_wp2
    refine bodyPost_ret (v := .agg #[.int .i64 a, .int .i64 b, .bool true]) (by simp [results, Try.results72, go_sem]) rfl ⟨rfl, ?_⟩
    exact (Kept.refl _).alloc _
  · have e0 : spL a b = 0 := if_neg h
    have e1 : spH a b = 0 := if_neg h
    have e2 : spS a b = false := decide_eq_false h
    rw [e0, e1, e2]
    clear e0 e1 e2
    go_enter Try.func72, Try.ntmps72
    go_wp2
    refine bodyPost_ret (v := .agg #[.int .i64 0, .int .i64 0, .bool false]) (by simp [results, Try.results72, go_sem]) rfl ⟨rfl, ?_⟩
    exact (Kept.refl _).alloc _

theorem rleast_any (m d c : Int) (hm : 0 ≤ m) (hm1 : m ≤ 500) (hd : 0 ≤ d) (hd1 : d ≤ 500) (w : World) :
    Calls Try.prog 73 #[.agg #[.int .i64 m, .int .i64 d], .int .i64 c] w fun e w' => e = .returned (.int .i64 ((leastOf d c : Nat))) ∧ Kept w w' := by
  obtain ⟨W0, hW0⟩ : ∃ W0, W0 = w.alloc (.cells #[.int .i64 m, .int .i64 d] 23) := ⟨_, rfl⟩
  have k0 : Kept w W0 := by rw [hW0]; exact ((Kept.refl _).alloc _)
  have c00 : W0.cell? ⟨w.heap.size, 0, none⟩ = some (.int .i64 m) := by rw [hW0]; exact cellNew (by simp) rfl
  have c01 : W0.cell? ⟨w.heap.size, 1, none⟩ = some (.int .i64 d) := by rw [hW0]; exact cellNew (by simp) rfl
  have BR : RowKit.Hid (∀ W, Kept W0 W → W.cell? ⟨w.heap.size, 0, none⟩ = some (.int .i64 m) ∧ W.cell? ⟨w.heap.size, 1, none⟩ = some (.int .i64 d)) := Lib.hid (fun W hW => ⟨(hW.cells _ _ (cell_lt c00)).trans c00, (hW.cells _ _ (cell_lt c01)).trans c01⟩)
  have Z0 : W0.heap.size = w.heap.size + 1 := by rw [hW0]; simp
  have ZZ := Lib.hid Z0
  have HW := Lib.hid hW0
  have K0 := Lib.hid k0
  clear hW0 k0 Z0
  have kk := Kept.refl W0
  have b0 := cell_lt c00
  go_enter Try.func73, Try.ntmps73
  go_upto_region 1 with (fail)
  rw [← HW.out]
  go_wp2_with fail
  go_loopw [5, 6] (fun s5 s6 wr => ∃ a b : Int, s5 = .int .i64 a ∧ s6 = .int .i64 b ∧ -1 ≤ a ∧ a < b ∧ b ≤ 100001 ∧ Kept W0 wr ∧ Hid ((∀ t : Int, 0 ≤ t → t ≤ a → hiI d t < c) ∧ (∀ t : Int, b ≤ t → t ≤ 100000 → c ≤ hiI d t))) (fun s5 s6 _ => (intOf s6 - intOf s5).toNat)
  case atStart => exact ⟨-1, 100001, rfl, rfl, by omega, by omega, by omega, Kept.refl _, Lib.hid ⟨fun t ht h => by omega, fun t ht h => by omega⟩⟩
  case round =>
    obtain ⟨a, b, rfl, rfl, ha, hab, hb, hkr, I⟩ := hrel
    by_cases hlt : 1 < b - a
    · obtain ⟨q, hq⟩ : ∃ q, q = (a + b) / 2 := ⟨_, rfl⟩
      have q0 : a < q := by omega
      have q1 : q < b := by omega
      have q2 : wrap64 (a + b) = a + b := by unfold wrap64; omega
      have q3 : (a + b).tdiv 2 = q := by rw [hq, Int.tdiv_eq_ediv_of_nonneg (by omega)]
      clear hq
      obtain ⟨c00, c01⟩ := BR.out _ hkr
      have kk := hkr
      by_cases ht : c ≤ hiI d q
      · go_wp2_with (first
        | (go_at_call 66; refine (high_any m d q (by omega) (by omega) hd hd1 _).mono ?_; rintro e w1 ⟨rfl, hk⟩; replace kk := kk.trans hk)
        | fail)
        go_roundw
        case rel => exact ⟨a, q, rfl, rfl, ha, q0, by omega, kk, Lib.hid ⟨I.out.1, fun t h1 h2 => Int.le_trans ht (hiI_mono hd h1)⟩⟩
        case measure => simp [intOf]; omega
      · go_wp2_with (first
        | (go_at_call 66; refine (high_any m d q (by omega) (by omega) hd hd1 _).mono ?_; rintro e w1 ⟨rfl, hk⟩; replace kk := kk.trans hk)
        | fail)
        go_roundw
        case rel => exact ⟨q, b, rfl, rfl, by omega, q1, hb, kk, Lib.hid ⟨fun t h1 h2 => Int.lt_of_le_of_lt (hiI_mono hd h2) (by omega), I.out.2⟩⟩
        case measure => simp [intOf]; omega
    · obtain rfl : b = a + 1 := by omega
      have hs : ((leastOf d c : Nat) : Int) = a + 1 := by
        have := firstN_eq (p := fun i : Nat => decide (c ≤ hiI d i)) (n := 100001) (k := (a + 1).toNat) (by omega) (fun j hj => by
          have := I.out.1 j (by omega) (by omega)
          simp only [decide_eq_false_iff_not]; omega) (fun h => by
          have := I.out.2 ((a + 1).toNat : Nat) (by omega) (by omega)
          simpa using this)
        unfold leastOf; rw [this]; omega
      have Hs := Lib.hid hs
      clear hs
      go_wp2
      go_ret
      exact ⟨ret_int (by rw [Hs.out]), K0.out.trans hkr⟩

theorem rgreatest_any (m d c : Int) (hm : 0 ≤ m) (hm1 : m ≤ 500) (hd : 0 ≤ d) (hd1 : d ≤ 500) (w : World) :
    Calls Try.prog 74 #[.agg #[.int .i64 m, .int .i64 d], .int .i64 c] w fun e w' => e = .returned (.int .i64 (mostOf m c)) ∧ Kept w w' := by
  obtain ⟨W0, hW0⟩ : ∃ W0, W0 = w.alloc (.cells #[.int .i64 m, .int .i64 d] 23) := ⟨_, rfl⟩
  have k0 : Kept w W0 := by rw [hW0]; exact ((Kept.refl _).alloc _)
  have c00 : W0.cell? ⟨w.heap.size, 0, none⟩ = some (.int .i64 m) := by rw [hW0]; exact cellNew (by simp) rfl
  have c01 : W0.cell? ⟨w.heap.size, 1, none⟩ = some (.int .i64 d) := by rw [hW0]; exact cellNew (by simp) rfl
  have BR : RowKit.Hid (∀ W, Kept W0 W → W.cell? ⟨w.heap.size, 0, none⟩ = some (.int .i64 m) ∧ W.cell? ⟨w.heap.size, 1, none⟩ = some (.int .i64 d)) := Lib.hid (fun W hW => ⟨(hW.cells _ _ (cell_lt c00)).trans c00, (hW.cells _ _ (cell_lt c01)).trans c01⟩)
  have Z0 : W0.heap.size = w.heap.size + 1 := by rw [hW0]; simp
  have ZZ := Lib.hid Z0
  have HW := Lib.hid hW0
  have K0 := Lib.hid k0
  clear hW0 k0 Z0
  have kk := Kept.refl W0
  have b0 := cell_lt c00
  go_enter Try.func74, Try.ntmps74
  go_upto_region 1 with (fail)
  rw [← HW.out]
  go_wp2_with fail
  go_loopw [5, 6] (fun s5 s6 wr => ∃ a b : Int, s5 = .int .i64 a ∧ s6 = .int .i64 b ∧ -1 ≤ a ∧ a < b ∧ b ≤ 100001 ∧ Kept W0 wr ∧ Hid ((∀ t : Int, 0 ≤ t → t ≤ a → loI m t ≤ c) ∧ (∀ t : Int, b ≤ t → t ≤ 100000 → c < loI m t))) (fun s5 s6 _ => (intOf s6 - intOf s5).toNat)
  case atStart => exact ⟨-1, 100001, rfl, rfl, by omega, by omega, by omega, Kept.refl _, Lib.hid ⟨fun t ht h => by omega, fun t ht h => by omega⟩⟩
  case round =>
    obtain ⟨a, b, rfl, rfl, ha, hab, hb, hkr, I⟩ := hrel
    by_cases hlt : 1 < b - a
    · obtain ⟨q, hq⟩ : ∃ q, q = (a + b) / 2 := ⟨_, rfl⟩
      have q0 : a < q := by omega
      have q1 : q < b := by omega
      have q2 : wrap64 (a + b) = a + b := by unfold wrap64; omega
      have q3 : (a + b).tdiv 2 = q := by rw [hq, Int.tdiv_eq_ediv_of_nonneg (by omega)]
      clear hq
      obtain ⟨c00, c01⟩ := BR.out _ hkr
      have kk := hkr
      by_cases ht : loI m q ≤ c
      · go_wp2_with (first
        | (go_at_call 65; refine (low_any m d q (by omega) (by omega) hm hm1 _).mono ?_; rintro e w1 ⟨rfl, hk⟩; replace kk := kk.trans hk)
        | fail)
        go_roundw
        case rel => exact ⟨q, b, rfl, rfl, by omega, q1, hb, kk, Lib.hid ⟨fun t h1 h2 => Int.le_trans (loI_mono hm (by omega) h2) ht, I.out.2⟩⟩
        case measure => simp [intOf]; omega
      · go_wp2_with (first
        | (go_at_call 65; refine (low_any m d q (by omega) (by omega) hm hm1 _).mono ?_; rintro e w1 ⟨rfl, hk⟩; replace kk := kk.trans hk)
        | fail)
        go_roundw
        case rel => exact ⟨a, q, rfl, rfl, ha, q0, by omega, kk, Lib.hid ⟨I.out.1, fun t h1 h2 => Int.lt_of_lt_of_le (by omega) (loI_mono hm (by omega) h1)⟩⟩
        case measure => simp [intOf]; omega
    · obtain rfl : b = a + 1 := by omega
      have hs : mostOf m c = a := by
        have := firstN_eq (p := fun i : Nat => decide (loI m (100000 - i) ≤ c)) (n := 100001) (k := (100000 - a).toNat) (by omega) (fun j hj => by
          have := I.out.2 (100000 - (j : Int)) (by omega) (by omega)
          simp only [decide_eq_false_iff_not]; omega) (fun h => by
          have := I.out.1 (100000 - ((100000 - a).toNat : Nat)) (by omega) (by omega)
          simpa using this)
        unfold mostOf belowOf; rw [this]; omega
      have Hs := Lib.hid hs
      clear hs
      go_wp2
      go_ret
      exact ⟨ret_int (by rw [Hs.out]), K0.out.trans hkr⟩

end Go.Proofs.Ytjaicilnlgjdcaa
