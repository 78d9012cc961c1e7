/- TallyWorn -/
import Derived.Test.YtjaicilnlgjdcaaUl
import Derived.Test.YtjaicilnlgjdcaaVe
namespace Go.Proofs.Ytjaicilnlgjdcaa
set_option linter.all false
open Go.RowKit

/-- for some number of the first k worn ones the count is between lw and hg -/
def someUp (lw hg nu : Int) (k : Nat) : Bool := (List.range k).any (fun j => inB (nu + j) lw hg)
theorem someUp_snoc (lw hg nu : Int) (k : Nat) : someUp lw hg nu (k + 1) = (someUp lw hg nu k || inB (nu + k) lw hg) := by
  unfold someUp; rw [List.range_succ, List.any_append]; simp
theorem someUp_eq {lw hg nu : Int} {x : Nat} (h : lw ≤ hg) : someUp lw hg nu (x + 1) = (decide (lw ≤ nu + x) && decide (nu ≤ hg)) := by
  rw [Bool.eq_iff_iff]
  unfold someUp
  simp only [List.any_eq_true, List.mem_range, inB_iff, Bool.and_eq_true, decide_eq_true_eq]
  constructor
  · rintro ⟨j, hj, h1, h2⟩; omega
  · rintro ⟨h1, h2⟩
    refine ⟨(lw - nu).toNat, ?_, ?_, ?_⟩ <;> omega

set_option maxRecDepth 100000 in
set_option maxHeartbeats 8000000 in
theorem worn_any (m d i dy s nu x n : Int) (hn : -9223372036854775808 ≤ n ∧ n ≤ 9223372036854775807) (w : World) :
    Calls Try.prog 10 #[.agg #[.int .i64 m, .int .i64 d], .agg #[.int .i64 i, .int .i64 dy, .int .i64 s, .int .i64 nu, .int .i64 x], .int .i64 n] w fun e w' => e = .returned (.bool true) ∧ Kept w w' := by
  obtain ⟨W0, hW0⟩ : ∃ W0, W0 = (w.alloc (.cells #[.int .i64 m, .int .i64 d] 23)).alloc (.cells #[.int .i64 i, .int .i64 dy, .int .i64 s, .int .i64 nu, .int .i64 x] 25) := ⟨_, rfl⟩
  have k0 : Kept w W0 := by rw [hW0]; exact ((Kept.refl _).alloc _).alloc _
  have r3 : RowC W0 w.heap.size [.int .i64 m, .int .i64 d] := by rw [hW0]; exact (RowC.new w _ 23).kept ((Kept.refl _).alloc _)
  have r4 : RowC W0 (w.heap.size + 1) [.int .i64 i, .int .i64 dy, .int .i64 s, .int .i64 nu, .int .i64 x] := by rw [hW0]; exact RowC.atn (vs := [.int .i64 i, .int .i64 dy, .int .i64 s, .int .i64 nu, .int .i64 x]) (by simp)
  have HW := Lib.hid hW0
  obtain ⟨lo, hi, so, hx⟩ : ∃ lo hi so, ocI m d i dy s nu x = (lo, hi, so) := ⟨_, _, _, rfl⟩
  obtain ⟨t, ht⟩ : ∃ t, t = ocOk m d i dy s nu x := ⟨_, rfl⟩
  have HC : RowKit.Hid (∀ W, Calls Try.prog 26 #[.agg #[.int .i64 m, .int .i64 d], .agg #[.int .i64 i, .int .i64 dy, .int .i64 s, .int .i64 nu, .int .i64 x]] W fun e w' => e = .returned (.tuple #[.agg #[.int .i64 lo, .int .i64 hi, .bool so], .int .i64 (errI t)]) ∧ Kept W w') := Lib.hid (fun W => by have := ofCount_any m d i dy s nu x W; rw [hx] at this; rw [ht]; exact this)
  have hok := oc_ok m d i dy s nu x
  rw [hx] at hok
  have q0 := (r3 0 _ rfl).1
  have q1 := (r3 1 _ rfl).1
  have z0 := (r4 0 _ rfl).1
  have z1 := (r4 1 _ rfl).1
  have z2 := (r4 2 _ rfl).1
  have z3 := (r4 3 _ rfl).1
  have z4 := (r4 4 _ rfl).1
  have R3 := Lib.hid r3
  have R4 := Lib.hid r4
  have K0 := Lib.hid k0
  have HX := Lib.hid hx
  have HT := Lib.hid ht
  clear hW0 r3 r4 k0 hx ht
  cases t
  · have hx0 : (lo, hi, so) = (0, 0, false) := by rw [← HX.out, ocI, if_neg (by rw [← HT.out]; simp)]
    cases hx0
    rw [errI_false] at HC
    clear hok
    go_enter Try.func10, Try.ntmps10
    go_wp2_with fail
    rw [← HW.out]
    refine (HC.out _).mono ?_
    rintro e w1 ⟨rfl, hk1⟩
    go_wp2_with fail
    refine (counted_any _).mono ?_
    rintro e w2 ⟨rfl, hk2⟩
    have c0 := ((RowC.new w1 [.int .i64 0, .int .i64 0, .bool false] 34).kept hk2 0 _ rfl).1
    have c1 := ((RowC.new w1 [.int .i64 0, .int .i64 0, .bool false] 34).kept hk2 1 _ rfl).1
    have c2 := ((RowC.new w1 [.int .i64 0, .int .i64 0, .bool false] 34).kept hk2 2 _ rfl).1
    go_wp2
    go_ret
    exact ⟨rfl, (K0.out.trans ((hk1.alloc _).trans hk2))⟩
  rw [errI_true] at HC
  by_cases h60 : 60 < x
  · go_enter Try.func10, Try.ntmps10
    go_wp2_with fail
    rw [← HW.out]
    refine (HC.out _).mono ?_
    rintro e w1 ⟨rfl, hk1⟩
    have zz4 := ((R4.out.kept hk1) 4 _ rfl).1
    have lz := cell_lt zz4
    go_wp2_with fail
    refine (counted_any _).mono ?_
    rintro e w2 ⟨rfl, hk2⟩
    go_wp2
    go_ret
    exact ⟨rfl, (K0.out.trans ((hk1.alloc _).trans hk2))⟩
  have hb : 0 ≤ lo ∧ lo ≤ 100000 ∧ 0 ≤ hi ∧ hi ≤ 100000 := by
    rcases hok with h | h
    · dsimp only at h; omega
    · cases h; omega
  have hval : rateB m d = true ∧ countB i dy s nu x = true := by have := HT.out; unfold ocOk at this; rw [eq_comm, Bool.and_eq_true] at this; exact this
  obtain ⟨⟨hnu0, hnu1⟩, hx0, hx1⟩ := countB_bd hval.2
  obtain ⟨X, hX⟩ : ∃ X : Nat, x = X := ⟨x.toNat, by omega⟩
  subst hX
  have hX60 : X ≤ 60 := by omega
  have hw1 : IntKind.i64.wrap (lo - 1) = lo - 1 := IntWalk.i64_in _ (by omega)
  have hw2 : IntKind.i64.wrap (hi + 1) = hi + 1 := IntWalk.i64_in _ (by omega)
  obtain ⟨hb0, hb1, hb2, hb3⟩ := hb
  have HVAL := Lib.hid hval
  clear hok hval
  have HIN : RowKit.Hid (∀ y, 0 ≤ y → y ≤ 100000 → inI lo hi so y = (decide (loI m y ≤ nu + X) && decide (nu ≤ hiI d y))) := Lib.hid (fun y h0 h1 => by
    have := oc_in HT.out.symm h0 h1
    rw [HX.out] at this; exact this)
  go_enter Try.func10, Try.ntmps10
  go_wp2_with fail
  rw [← HW.out]
  refine (HC.out _).mono ?_
  rintro e w1 ⟨rfl, hk1⟩
  obtain ⟨W2, hW2⟩ : ∃ W2, W2 = w1.alloc (.cells #[.int .i64 lo, .int .i64 hi, .bool so] 34) := ⟨_, rfl⟩
  have zz2 : W2.heap.size = w1.heap.size + 1 := by rw [hW2]; simp
  have k2 : Kept w1 W2 := by rw [hW2]; exact (Kept.refl _).alloc _
  have ri : RowC W2 w1.heap.size [.int .i64 lo, .int .i64 hi, .bool so] := by rw [hW2]; exact RowC.new w1 [.int .i64 lo, .int .i64 hi, .bool so] 34
  have rr : RowC W2 w.heap.size [.int .i64 m, .int .i64 d] := (R3.out.kept hk1).kept k2
  have rc : RowC W2 (w.heap.size + 1) [.int .i64 i, .int .i64 dy, .int .i64 s, .int .i64 nu, .int .i64 X] := (R4.out.kept hk1).kept k2
  have kW2 : Kept w W2 := (K0.out.trans hk1).trans k2
  obtain ⟨W3, hW3⟩ : ∃ W3, W3 = W2.alloc (.cells #[.int .i64 n, .int .i64 (lo - 1), .int .i64 lo, .int .i64 hi, .int .i64 (hi + 1)] 3) := ⟨_, rfl⟩
  have k3 : Kept W2 W3 := by rw [hW3]; exact (Kept.refl _).alloc _
  have rn : RowC W3 (w1.heap.size + 1) ([n, lo - 1, lo, hi, hi + 1].map (Value.int .i64)) := by rw [hW3, ← zz2]; exact RowC.new W2 _ 3
  have HW2 := Lib.hid hW2
  have HW3 := Lib.hid hW3
  have Z2 := Lib.hid zz2
  have RN := Lib.hid rn
  have RI3 := Lib.hid (ri.kept k3)
  have RR3 := Lib.hid (rr.kept k3)
  have RC3 := Lib.hid (rc.kept k3)
  have KW3 := Lib.hid (kW2.trans k3)
  have v0 := (ri 0 _ rfl).1
  have v1 := (ri 1 _ rfl).1
  have v2 := (ri 2 _ rfl).1
  have v3 := (rc 3 _ rfl).1
  have v4 := (rc 4 _ rfl).1
  have hnw := cell_lt (rn 0 _ rfl).1
  have zc4 := ((R4.out.kept hk1) 4 _ rfl).1
  have lz := cell_lt zc4
  clear hW2 hW3 k2 k3 ri rr rc kW2 zz2 rn q0 q1 z0 z1 z2 z3 z4
  go_upto_region 4 with (fail)
  rw [← HW2.out]
  go_upto_region 5 with (fail)
  rw [← HW3.out, Z2.out]
  go_wp2_with fail
  go_loopw [10] (fun i wr => ∃ k : Nat, k ≤ 5 ∧ i = .int .i64 k ∧ Kept W3 wr) (fun i _ => 5 - (intOf i).toNat)
  case atStart => exact ⟨0, by omega, by first | rfl | go_num, Kept.refl _⟩
  case round =>
    obtain ⟨k, hk, rfl, hkr⟩ := hrel
    by_cases hlt : k < 5
    · obtain ⟨y, hy⟩ : ∃ y, ([n, lo - 1, lo, hi, hi + 1] : List Int)[k]? = some y := ⟨_, List.getElem?_eq_getElem (by simpa using hlt)⟩
      have HCY : RowKit.Hid (∀ W, Kept W3 W → W.cell? ⟨w1.heap.size + 1, k, none⟩ = some (.int .i64 y)) := Lib.hid (fun W hW => ((RN.out.kept hW) k (.int .i64 y) (by rw [List.getElem?_map, hy]; rfl)).1)
      have SB : RowKit.Hid (∀ W, Kept W3 W → W.cell? ⟨w.heap.size, 0, none⟩ = some (.int .i64 m) ∧ W.cell? ⟨w.heap.size, 1, none⟩ = some (.int .i64 d) ∧ W.cell? ⟨w.heap.size + 1, 0, none⟩ = some (.int .i64 i) ∧ W.cell? ⟨w.heap.size + 1, 1, none⟩ = some (.int .i64 dy) ∧ W.cell? ⟨w.heap.size + 1, 2, none⟩ = some (.int .i64 s) ∧ W.cell? ⟨w.heap.size + 1, 3, none⟩ = some (.int .i64 nu) ∧ W.cell? ⟨w.heap.size + 1, 4, none⟩ = some (.int .i64 X) ∧ W.cell? ⟨w1.heap.size, 0, none⟩ = some (.int .i64 lo) ∧ W.cell? ⟨w1.heap.size, 1, none⟩ = some (.int .i64 hi) ∧ W.cell? ⟨w1.heap.size, 2, none⟩ = some (.bool so) ∧ W.cell? ⟨w1.heap.size + 1, k, none⟩ = some (.int .i64 y) ∧ Kept W3 W) := Lib.hid (fun W hW => ⟨((RR3.out.kept hW) 0 _ rfl).1, ((RR3.out.kept hW) 1 _ rfl).1, ((RC3.out.kept hW) 0 _ rfl).1, ((RC3.out.kept hW) 1 _ rfl).1, ((RC3.out.kept hW) 2 _ rfl).1, ((RC3.out.kept hW) 3 _ rfl).1, ((RC3.out.kept hW) 4 _ rfl).1, ((RI3.out.kept hW) 0 _ rfl).1, ((RI3.out.kept hW) 1 _ rfl).1, ((RI3.out.kept hW) 2 _ rfl).1, HCY.out W hW, hW⟩)
      have SST : RowKit.Hid (∀ W W', (W.cell? ⟨w.heap.size, 0, none⟩ = some (.int .i64 m) ∧ W.cell? ⟨w.heap.size, 1, none⟩ = some (.int .i64 d) ∧ W.cell? ⟨w.heap.size + 1, 0, none⟩ = some (.int .i64 i) ∧ W.cell? ⟨w.heap.size + 1, 1, none⟩ = some (.int .i64 dy) ∧ W.cell? ⟨w.heap.size + 1, 2, none⟩ = some (.int .i64 s) ∧ W.cell? ⟨w.heap.size + 1, 3, none⟩ = some (.int .i64 nu) ∧ W.cell? ⟨w.heap.size + 1, 4, none⟩ = some (.int .i64 X) ∧ W.cell? ⟨w1.heap.size, 0, none⟩ = some (.int .i64 lo) ∧ W.cell? ⟨w1.heap.size, 1, none⟩ = some (.int .i64 hi) ∧ W.cell? ⟨w1.heap.size, 2, none⟩ = some (.bool so) ∧ W.cell? ⟨w1.heap.size + 1, k, none⟩ = some (.int .i64 y) ∧ Kept W3 W) → Kept W W' → W'.cell? ⟨w.heap.size, 0, none⟩ = some (.int .i64 m) ∧ W'.cell? ⟨w.heap.size, 1, none⟩ = some (.int .i64 d) ∧ W'.cell? ⟨w.heap.size + 1, 0, none⟩ = some (.int .i64 i) ∧ W'.cell? ⟨w.heap.size + 1, 1, none⟩ = some (.int .i64 dy) ∧ W'.cell? ⟨w.heap.size + 1, 2, none⟩ = some (.int .i64 s) ∧ W'.cell? ⟨w.heap.size + 1, 3, none⟩ = some (.int .i64 nu) ∧ W'.cell? ⟨w.heap.size + 1, 4, none⟩ = some (.int .i64 X) ∧ W'.cell? ⟨w1.heap.size, 0, none⟩ = some (.int .i64 lo) ∧ W'.cell? ⟨w1.heap.size, 1, none⟩ = some (.int .i64 hi) ∧ W'.cell? ⟨w1.heap.size, 2, none⟩ = some (.bool so) ∧ W'.cell? ⟨w1.heap.size + 1, k, none⟩ = some (.int .i64 y) ∧ Kept W3 W') := Lib.hid (fun W W' h hk => SB.out W' (h.2.2.2.2.2.2.2.2.2.2.2.trans hk))
      clear hy
      have hcy := HCY.out _ hkr
      have hlk := cell_lt hcy
      have hi0 : (0 : Int) ≤ (k : Int) := by omega
      have hi1 : (k : Int) < 5 := by omega
      rcases hyn : inB y 0 100000 with _ | _
      · have HY := Lib.hid hyn
        clear hyn
        go_wp2_with (go_at_call 57; refine (lnumber_any y _).mono ?_; rintro e w4 ⟨rfl, hw4⟩; obtain rfl : wr = w4 := hw4.symm; rw [HY.out])
        go_roundw
        case rel => exact ⟨k + 1, by omega, by go_num, hkr⟩
        case measure => simp [intOf]; omega
      · have HY := Lib.hid hyn
        obtain ⟨hy0, hy1⟩ := inB_iff.1 hyn
        clear hyn
        obtain ⟨lw, hlw⟩ : ∃ lw, lw = loI m y := ⟨_, rfl⟩
        obtain ⟨hg, hhg⟩ : ∃ hg, hg = hiI d y := ⟨_, rfl⟩
        have hle : lw ≤ hg := by
          obtain ⟨⟨g1, g2⟩, g3, g4⟩ := rateB_bd HVAL.out.1
          have := loI_le (m := m) (n := y) g1 hy0
          have := hiI_ge (d := d) (n := y) g3 hy0
          omega
        have H16 : RowKit.Hid (∀ (j : Nat), j ≤ X → ∀ W, Calls Try.prog 16 #[.agg #[.int .i64 m, .int .i64 d], .int .i64 y, .int .i64 (nu + j)] W fun e w' => e = .returned (.tuple #[.bool (inB (nu + j) lw hg), .int .i64 0]) ∧ Kept W w') := Lib.hid (fun j hj W => by
          have hT : trOk m d (nu + j) = true := by unfold trOk; rw [HVAL.out.1, Bool.true_and]; exact inB_iff.2 (by omega)
          have hF := fit_true (n := y) hT HY.out
          refine (fits16_any m d y (nu + j) W).mono fun _ _ ⟨he, hk⟩ => ⟨?_, hk⟩
          rw [he, hF.1, hF.2.1, hlw, hhg]; rfl)
        have H58 : RowKit.Hid (∀ W, Calls Try.prog 58 #[.agg #[.int .i64 lo, .int .i64 hi, .bool so], .int .i64 y] W fun e w' => e = .returned (.bool (someUp lw hg nu (X + 1))) ∧ Kept W w') := Lib.hid (fun W => (in_any lo hi y so W).mono fun _ _ ⟨he, hk⟩ => ⟨by rw [he, HIN.out y hy0 hy1, someUp_eq hle, hlw, hhg], hk⟩)
        clear hlw hhg
        go_wp2_with (go_at_call 57; refine (lnumber_any y _).mono ?_; rintro e w4 ⟨rfl, hw4⟩; obtain rfl : wr = w4 := hw4.symm; rw [HY.out])
        clear hw4
        rename World => wq
        have HKQ := Lib.hid hkr
        go_loopw [11, 12] (fun sv kv wr => ∃ j : Nat, j ≤ X + 1 ∧ kv = .int .i64 j ∧ sv = .bool (someUp lw hg nu j) ∧ Kept W3 wr) (fun _ kv _ => X + 1 - (intOf kv).toNat)
        case atStart => exact ⟨0, by omega, by first | rfl | go_num, rfl, HKQ.out⟩
        case round =>
          clear hkr hcy hlk
          obtain ⟨j, hj, rfl, rfl, hkr⟩ := hrel
          obtain ⟨p0, p1, a0, a1, a2, a3, a4, s0, s1, s2, hcy, _⟩ := SB.out _ hkr
          obtain ⟨sv, hsv⟩ : ∃ sv, sv = someUp lw hg nu j := ⟨_, rfl⟩
          rw [← hsv]
          have HSV := Lib.hid hsv
          clear hsv
          have lc := cell_lt a4
          by_cases hjx : j ≤ X
          · obtain ⟨fb, hfb⟩ : ∃ fb, fb = inB (nu + j) lw hg := ⟨_, rfl⟩
            have h16 := H16.out j hjx
            rw [← hfb] at h16
            have H16J := Lib.hid h16
            have HS : RowKit.Hid (someUp lw hg nu (j + 1) = (sv || fb)) := Lib.hid (by rw [someUp_snoc, HSV.out, hfb])
            have hws : IntKind.i64.wrap (nu + j) = nu + j := IntWalk.i64_in _ (by omega)
            clear h16 hfb HSV
            go_wp2
            clear p0 p1 a0 a1 a2 a3 a4 hcy s0 s1 s2
            have SB1 := Lib.hid (SB.out _ hkr.drew)
            go_region_held3 (fun W => W.cell? ⟨w.heap.size, 0, none⟩ = some (.int .i64 m) ∧ W.cell? ⟨w.heap.size, 1, none⟩ = some (.int .i64 d) ∧ W.cell? ⟨w.heap.size + 1, 0, none⟩ = some (.int .i64 i) ∧ W.cell? ⟨w.heap.size + 1, 1, none⟩ = some (.int .i64 dy) ∧ W.cell? ⟨w.heap.size + 1, 2, none⟩ = some (.int .i64 s) ∧ W.cell? ⟨w.heap.size + 1, 3, none⟩ = some (.int .i64 nu) ∧ W.cell? ⟨w.heap.size + 1, 4, none⟩ = some (.int .i64 X) ∧ W.cell? ⟨w1.heap.size, 0, none⟩ = some (.int .i64 lo) ∧ W.cell? ⟨w1.heap.size, 1, none⟩ = some (.int .i64 hi) ∧ W.cell? ⟨w1.heap.size, 2, none⟩ = some (.bool so) ∧ W.cell? ⟨w1.heap.size + 1, k, none⟩ = some (.int .i64 y) ∧ Kept W3 W) (first | (with_reducible exact SB1.out) | (with_reducible refine SST.out _ _ ?_ hkk; assumption) | fail) (first | fail | (go_at_call 16; refine (H16J.out _).mono ?_; rintro e w5 ⟨rfl, hkk⟩))
            obtain ⟨p0, p1, a0, a1, a2, a3, a4, s0, s1, s2, hcy, hkr⟩ := ‹_ ∧ _›
            clear SB1
            cases sv
            all_goals
              go_wp2
              go_roundw
              case rel => exact ⟨j + 1, by omega, by go_num, by rw [HS.out]; rfl, hkr⟩
              case measure => simp [intOf]; omega
          · obtain rfl : j = X + 1 := by omega
            rw [← HSV.out] at H58
            have hlc : ¬ ((X : Int) + 1 ≤ X) := by omega
            go_wp2
            clear p0 p1 a0 a1 a2 a3 a4 hcy s0 s1 s2
            have SB1 := Lib.hid (SB.out _ hkr.drew)
            go_region_held3 (fun W => W.cell? ⟨w.heap.size, 0, none⟩ = some (.int .i64 m) ∧ W.cell? ⟨w.heap.size, 1, none⟩ = some (.int .i64 d) ∧ W.cell? ⟨w.heap.size + 1, 0, none⟩ = some (.int .i64 i) ∧ W.cell? ⟨w.heap.size + 1, 1, none⟩ = some (.int .i64 dy) ∧ W.cell? ⟨w.heap.size + 1, 2, none⟩ = some (.int .i64 s) ∧ W.cell? ⟨w.heap.size + 1, 3, none⟩ = some (.int .i64 nu) ∧ W.cell? ⟨w.heap.size + 1, 4, none⟩ = some (.int .i64 X) ∧ W.cell? ⟨w1.heap.size, 0, none⟩ = some (.int .i64 lo) ∧ W.cell? ⟨w1.heap.size, 1, none⟩ = some (.int .i64 hi) ∧ W.cell? ⟨w1.heap.size, 2, none⟩ = some (.bool so) ∧ W.cell? ⟨w1.heap.size + 1, k, none⟩ = some (.int .i64 y) ∧ Kept W3 W) (first | (with_reducible exact SB1.out) | (with_reducible refine SST.out _ _ ?_ hkk; assumption) | fail) (first | fail | (go_at_call 58; refine (H58.out _).mono ?_; rintro e w5 ⟨rfl, hkk⟩))
            obtain ⟨p0, p1, a0, a1, a2, a3, a4, s0, s1, s2, hcy, hkr⟩ := ‹_ ∧ _›
            clear SB1
            go_wp2
            go_roundw
            case rel => exact ⟨k + 1, by omega, by go_num, hkr⟩
            case measure => simp [intOf]; omega
    · obtain rfl : k = 5 := by omega
      obtain ⟨t1, t2, t3, htr⟩ : ∃ t1 t2 t3, trI m d nu = (t1, t2, t3) := ⟨_, _, _, rfl⟩
      have hT : trOk m d nu = true := by unfold trOk; rw [HVAL.out.1, Bool.true_and]; exact inB_iff.2 (by omega)
      have hG : gaI m d i dy s nu X = t1 := by
        have e : trI m d nu = spI (leastOf d nu) (mostOf m nu) := by rw [trI, if_pos hT]
        rw [gaI, if_pos HT.out.symm]
        rw [htr] at e
        unfold spI at e
        simp only [Prod.mk.injEq] at e
        exact e.1.symm
      have H24 : RowKit.Hid (∀ W, Calls Try.prog 24 #[.agg #[.int .i64 m, .int .i64 d], .int .i64 nu] W fun e w' => e = .returned (.tuple #[.agg #[.int .i64 t1, .int .i64 t2, .bool t3], .int .i64 0]) ∧ Kept W w') := Lib.hid (fun W => (true_any m d nu W).mono fun _ _ ⟨he, hk⟩ => ⟨by rw [he, htr, hT]; rfl, hk⟩)
      have H28 : RowKit.Hid (∀ W, Calls Try.prog 28 #[.agg #[.int .i64 m, .int .i64 d], .agg #[.int .i64 i, .int .i64 dy, .int .i64 s, .int .i64 nu, .int .i64 X]] W fun e w' => e = .returned (.tuple #[.int .i64 t1, .int .i64 0]) ∧ Kept W w') := Lib.hid (fun W => (gathered_any m d i dy s nu X W).mono fun _ _ ⟨he, hk⟩ => ⟨by rw [he, hG, ← HT.out]; rfl, hk⟩)
      clear htr hT hG
      have p0 := ((RR3.out.kept hkr) 0 _ rfl).1
      have p1 := ((RR3.out.kept hkr) 1 _ rfl).1
      have a3 := ((RC3.out.kept hkr) 3 _ rfl).1
      go_wp2_with fail
      refine (H24.out _).mono ?_
      rintro e w4 ⟨rfl, hk4⟩
      have hkr4 := hkr.trans hk4
      have g0 := ((RR3.out.kept hkr4) 0 _ rfl).1
      have g1 := ((RR3.out.kept hkr4) 1 _ rfl).1
      have e0 := ((RC3.out.kept hkr4) 0 _ rfl).1
      have e1 := ((RC3.out.kept hkr4) 1 _ rfl).1
      have e2 := ((RC3.out.kept hkr4) 2 _ rfl).1
      have e3 := ((RC3.out.kept hkr4) 3 _ rfl).1
      have e4 := ((RC3.out.kept hkr4) 4 _ rfl).1
      have l0 := cell_lt g0
      have l1 := cell_lt e0
      have RT := Lib.hid (RowC.new w4 [.int .i64 t1, .int .i64 t2, .bool t3] 34)
      go_wp2_with fail
      refine (H28.out _).mono ?_
      rintro e w5 ⟨rfl, hk5⟩
      have RT5 := Lib.hid (RT.out.kept hk5)
      go_wp2_with fail
      refine (counted_any _).mono ?_
      rintro e w6 ⟨rfl, hk6⟩
      have f0 := ((RT5.out.kept hk6) 0 _ rfl).1
      go_wp2
      go_ret
      exact ⟨rfl, ((KW3.out.trans hkr4).trans (((Kept.refl _).alloc _).trans hk5)).trans hk6⟩
end Go.Proofs.Ytjaicilnlgjdcaa
