/- TallyRates -/
import Derived.Test.YtjaicilnlgjdcaaWf
import Derived.Test.YtjaicilnlgjdcaaUl
import Derived.Deep.RegionHeld3
namespace Go.Proofs.Ytjaicilnlgjdcaa
set_option linter.all false
open Go.RowKit Go.Shelf

set_option maxRecDepth 100000 in
set_option maxHeartbeats 4000000 in
theorem ratesLaw_any (m d m2 d2 : Int) (A : Option Addr) (n c : Nat) (xs : List Rcn) (sh known : Int) (w : World) (hT : RcA w A n c xs) :
    Calls Try.prog 8 #[.agg #[.int .i64 m, .int .i64 d], .agg #[.int .i64 m2, .int .i64 d2], .slice A n c, .int .i64 sh, .int .i64 known] w fun e w' => e = .returned (.bool true) ∧ Kept w w' := by
  have HT := Lib.hid hT
  have hnc := hT.2.1
  have hcm := hT.2.2.1
  clear hT
  obtain ⟨W0, hW0⟩ : ∃ W0, W0 = (w.alloc (.cells #[.int .i64 m, .int .i64 d] 23)).alloc (.cells #[.int .i64 m2, .int .i64 d2] 23) := ⟨_, rfl⟩
  have K0 : RowKit.Hid (Kept w W0) := Lib.hid (by rw [hW0]; exact ((Kept.refl _).alloc _).alloc _)
  have R0 : RowKit.Hid (RowC W0 w.heap.size [.int .i64 m, .int .i64 d]) := Lib.hid (by rw [hW0]; exact (RowC.new w [.int .i64 m, .int .i64 d] 23).kept ((Kept.refl _).alloc _))
  have R1 : RowKit.Hid (RowC W0 (w.heap.size + 1) [.int .i64 m2, .int .i64 d2]) := Lib.hid (by rw [hW0]; exact RowC.atn (vs := [.int .i64 m2, .int .i64 d2]) (by simp))
  have HW := Lib.hid hW0
  clear hW0
  by_cases h30 : 30 < n
  · go_enter Try.func8, Try.ntmps8
    go_upto_region 1 with (fail)
    rw [← HW.out]
    go_wp2_with fail
    refine (counted_any _).mono ?_
    rintro e w1 ⟨rfl, hk⟩
    go_wp2
    go_ret
    exact ⟨rfl, K0.out.trans hk⟩
  have hlt : n ≤ 1000000 := by omega
  obtain ⟨rm, rd, er, hre⟩ : ∃ rm rd er, rateI m d xs sh known = (rm, rd, er) := ⟨_, _, _, rfl⟩
  obtain ⟨wy, ey, hwy⟩ : ∃ wy ey, whyI m d xs sh known = (wy, ey) := ⟨_, _, rfl⟩
  obtain ⟨wg, eg, hwg⟩ : ∃ wg eg, wrI m2 d2 xs sh known = (wg, eg) := ⟨_, _, rfl⟩
  obtain ⟨nb, hnb⟩ : ∃ nb, nb = narB m d m2 d2 := ⟨_, rfl⟩
  have H49 : RowKit.Hid (∀ W, Kept w W → Calls Try.prog 49 #[.agg #[.int .i64 m, .int .i64 d], .slice A n c, .int .i64 sh, .int .i64 known] W fun e w' => e = .returned (.tuple #[.agg #[.int .i64 rm, .int .i64 rd], .int .i64 er]) ∧ Kept W w') := Lib.hid (fun W hW => by have := rateOf_any m d sh known A n c xs W (HT.out.kept hW) hlt; rwa [hre] at this)
  have H50 : RowKit.Hid (∀ W, Kept w W → Calls Try.prog 50 #[.agg #[.int .i64 m, .int .i64 d], .slice A n c, .int .i64 sh, .int .i64 known] W fun e w' => e = .returned (.tuple #[.agg #[.int .i64 rm, .int .i64 rd], .int .i64 er]) ∧ Kept W w') := Lib.hid (fun W hW => by have := rrateOf_any m d sh known A n c xs W (HT.out.kept hW) hlt; rwa [hre] at this)
  have H51 : RowKit.Hid (∀ W, Kept w W → Calls Try.prog 51 #[.agg #[.int .i64 m, .int .i64 d], .slice A n c, .int .i64 sh, .int .i64 known] W (IdsRes W wy ey)) := Lib.hid (fun W hW => by have := why_any m d sh known A n c xs W (HT.out.kept hW) hlt; rwa [hwy] at this)
  have H52 : RowKit.Hid (∀ W, Kept w W → Calls Try.prog 52 #[.agg #[.int .i64 m, .int .i64 d], .slice A n c, .int .i64 sh, .int .i64 known] W (IdsRes W wy ey)) := Lib.hid (fun W hW => by have := rwhy_any m d sh known A n c xs W (HT.out.kept hW) hlt; rwa [hwy] at this)
  have H53 : RowKit.Hid (∀ W, Kept w W → Calls Try.prog 53 #[.agg #[.int .i64 m2, .int .i64 d2], .slice A n c, .int .i64 sh, .int .i64 known] W (IdsRes W wg eg)) := Lib.hid (fun W hW => by have := wrong_any m2 d2 sh known A n c xs W (HT.out.kept hW) hlt; rwa [hwg] at this)
  have H54 : RowKit.Hid (∀ W, Kept w W → Calls Try.prog 54 #[.agg #[.int .i64 m2, .int .i64 d2], .slice A n c, .int .i64 sh, .int .i64 known] W (IdsRes W wg eg)) := Lib.hid (fun W hW => by have := rwrong_any m2 d2 sh known A n c xs W (HT.out.kept hW) hlt; rwa [hwg] at this)
  have H55 : RowKit.Hid (∀ W, Calls Try.prog 55 #[.agg #[.int .i64 m, .int .i64 d], .agg #[.int .i64 m2, .int .i64 d2]] W fun e w' => e = .returned (.bool nb) ∧ Kept W w') := Lib.hid (fun W => by rw [hnb]; exact narrower_any m d m2 d2 W)
  have H56 : RowKit.Hid (∀ W, Calls Try.prog 56 #[.agg #[.int .i64 m, .int .i64 d], .agg #[.int .i64 m2, .int .i64 d2]] W fun e w' => e = .returned (.bool nb) ∧ Kept W w') := Lib.hid (fun W => by rw [hnb]; exact rnarrower_any m d m2 d2 W)
  clear hre hwy hwg hnb
  have cR00 := (R0.out 0 _ rfl).1
  have cR01 := (R0.out 1 _ rfl).1
  have lR0 := cell_lt cR00
  have cR10 := (R1.out 0 _ rfl).1
  have cR11 := (R1.out 1 _ rfl).1
  have lR1 := cell_lt cR10
  go_enter Try.func8, Try.ntmps8
  go_upto_region 1 with (fail)
  rw [← HW.out]
  go_wp2_with fail
  refine (H49.out _ K0.out).mono ?_
  rintro e w1 ⟨rfl, hk1⟩
  clear cR00 cR01 cR10 cR11 lR0 lR1
  obtain ⟨W1, hW1⟩ : ∃ W1, W1 = w1.alloc (.cells #[.int .i64 rm, .int .i64 rd] 23) := ⟨_, rfl⟩
  have R2 : RowKit.Hid (RowC W1 w1.heap.size [.int .i64 rm, .int .i64 rd]) := Lib.hid (by rw [hW1]; exact RowC.new w1 [.int .i64 rm, .int .i64 rd] 23)
  have k1 : Kept w1 W1 := by rw [hW1]; exact (Kept.refl _).alloc _
  have HW1 := Lib.hid hW1
  replace R0 := Lib.hid (R0.out.kept (hk1.trans k1))
  replace R1 := Lib.hid (R1.out.kept (hk1.trans k1))
  replace K0 := Lib.hid (K0.out.trans (hk1.trans k1))
  clear hk1 k1 hW1
  have cR00 := (R0.out 0 _ rfl).1
  have cR01 := (R0.out 1 _ rfl).1
  have lR0 := cell_lt cR00
  have cR10 := (R1.out 0 _ rfl).1
  have cR11 := (R1.out 1 _ rfl).1
  have lR1 := cell_lt cR10
  have cR20 := (R2.out 0 _ rfl).1
  have cR21 := (R2.out 1 _ rfl).1
  have lR2 := cell_lt cR20
  go_upto_region 4 with (fail)
  rw [← HW1.out]
  go_wp2_with fail
  refine (H50.out _ K0.out).mono ?_
  rintro e w2 ⟨rfl, hk2⟩
  clear cR00 cR01 cR10 cR11 cR20 cR21 lR0 lR1 lR2
  obtain ⟨W2, hW2⟩ : ∃ W2, W2 = w2.alloc (.cells #[.int .i64 rm, .int .i64 rd] 23) := ⟨_, rfl⟩
  have R3 : RowKit.Hid (RowC W2 w2.heap.size [.int .i64 rm, .int .i64 rd]) := Lib.hid (by rw [hW2]; exact RowC.new w2 [.int .i64 rm, .int .i64 rd] 23)
  have k2 : Kept w2 W2 := by rw [hW2]; exact (Kept.refl _).alloc _
  have HW2 := Lib.hid hW2
  replace R0 := Lib.hid (R0.out.kept (hk2.trans k2))
  replace R1 := Lib.hid (R1.out.kept (hk2.trans k2))
  replace R2 := Lib.hid (R2.out.kept (hk2.trans k2))
  replace K0 := Lib.hid (K0.out.trans (hk2.trans k2))
  clear hk2 k2 hW2
  have cR00 := (R0.out 0 _ rfl).1
  have cR01 := (R0.out 1 _ rfl).1
  have lR0 := cell_lt cR00
  have cR10 := (R1.out 0 _ rfl).1
  have cR11 := (R1.out 1 _ rfl).1
  have lR1 := cell_lt cR10
  have cR20 := (R2.out 0 _ rfl).1
  have cR21 := (R2.out 1 _ rfl).1
  have lR2 := cell_lt cR20
  have cR30 := (R3.out 0 _ rfl).1
  have cR31 := (R3.out 1 _ rfl).1
  have lR3 := cell_lt cR30
  go_upto_region 5 with (fail)
  rw [← HW2.out]
  go_wp2_with fail
  refine (H51.out _ K0.out).mono ?_
  rintro e w3 ⟨A1, n1, c1, rfl, hi1, hk⟩
  clear cR00 cR01 cR10 cR11 cR20 cR21 cR30 cR31 lR0 lR1 lR2 lR3
  replace R0 := Lib.hid (R0.out.kept hk)
  replace R1 := Lib.hid (R1.out.kept hk)
  replace R2 := Lib.hid (R2.out.kept hk)
  replace R3 := Lib.hid (R3.out.kept hk)
  replace K0 := Lib.hid (K0.out.trans hk)
  have I1 := Lib.hid hi1
  clear hi1 hk
  have cR00 := (R0.out 0 _ rfl).1
  have cR01 := (R0.out 1 _ rfl).1
  have lR0 := cell_lt cR00
  have cR10 := (R1.out 0 _ rfl).1
  have cR11 := (R1.out 1 _ rfl).1
  have lR1 := cell_lt cR10
  have cR20 := (R2.out 0 _ rfl).1
  have cR21 := (R2.out 1 _ rfl).1
  have lR2 := cell_lt cR20
  have cR30 := (R3.out 0 _ rfl).1
  have cR31 := (R3.out 1 _ rfl).1
  have lR3 := cell_lt cR30
  go_wp2_with fail
  refine (H52.out _ K0.out).mono ?_
  rintro e w4 ⟨A2, n2, c2, rfl, hi2, hk⟩
  clear cR00 cR01 cR10 cR11 cR20 cR21 cR30 cR31 lR0 lR1 lR2 lR3
  replace R0 := Lib.hid (R0.out.kept hk)
  replace R1 := Lib.hid (R1.out.kept hk)
  replace R2 := Lib.hid (R2.out.kept hk)
  replace R3 := Lib.hid (R3.out.kept hk)
  replace K0 := Lib.hid (K0.out.trans hk)
  replace I1 := Lib.hid (I1.out.kept hk)
  have I2 := Lib.hid hi2
  clear hi2 hk
  have cR00 := (R0.out 0 _ rfl).1
  have cR01 := (R0.out 1 _ rfl).1
  have lR0 := cell_lt cR00
  have cR10 := (R1.out 0 _ rfl).1
  have cR11 := (R1.out 1 _ rfl).1
  have lR1 := cell_lt cR10
  have cR20 := (R2.out 0 _ rfl).1
  have cR21 := (R2.out 1 _ rfl).1
  have lR2 := cell_lt cR20
  have cR30 := (R3.out 0 _ rfl).1
  have cR31 := (R3.out 1 _ rfl).1
  have lR3 := cell_lt cR30
  go_wp2_with fail
  refine (H53.out _ K0.out).mono ?_
  rintro e w5 ⟨A3, n3, c3, rfl, hi3, hk⟩
  clear cR00 cR01 cR10 cR11 cR20 cR21 cR30 cR31 lR0 lR1 lR2 lR3
  replace R0 := Lib.hid (R0.out.kept hk)
  replace R1 := Lib.hid (R1.out.kept hk)
  replace R2 := Lib.hid (R2.out.kept hk)
  replace R3 := Lib.hid (R3.out.kept hk)
  replace K0 := Lib.hid (K0.out.trans hk)
  replace I1 := Lib.hid (I1.out.kept hk)
  replace I2 := Lib.hid (I2.out.kept hk)
  have I3 := Lib.hid hi3
  clear hi3 hk
  have cR00 := (R0.out 0 _ rfl).1
  have cR01 := (R0.out 1 _ rfl).1
  have lR0 := cell_lt cR00
  have cR10 := (R1.out 0 _ rfl).1
  have cR11 := (R1.out 1 _ rfl).1
  have lR1 := cell_lt cR10
  have cR20 := (R2.out 0 _ rfl).1
  have cR21 := (R2.out 1 _ rfl).1
  have lR2 := cell_lt cR20
  have cR30 := (R3.out 0 _ rfl).1
  have cR31 := (R3.out 1 _ rfl).1
  have lR3 := cell_lt cR30
  go_wp2_with fail
  refine (H54.out _ K0.out).mono ?_
  rintro e w6 ⟨A4, n4, c4, rfl, hi4, hk⟩
  clear cR00 cR01 cR10 cR11 cR20 cR21 cR30 cR31 lR0 lR1 lR2 lR3
  replace R0 := Lib.hid (R0.out.kept hk)
  replace R1 := Lib.hid (R1.out.kept hk)
  replace R2 := Lib.hid (R2.out.kept hk)
  replace R3 := Lib.hid (R3.out.kept hk)
  replace K0 := Lib.hid (K0.out.trans hk)
  replace I1 := Lib.hid (I1.out.kept hk)
  replace I2 := Lib.hid (I2.out.kept hk)
  replace I3 := Lib.hid (I3.out.kept hk)
  have I4 := Lib.hid hi4
  clear hi4 hk
  have cR00 := (R0.out 0 _ rfl).1
  have cR01 := (R0.out 1 _ rfl).1
  have lR0 := cell_lt cR00
  have cR10 := (R1.out 0 _ rfl).1
  have cR11 := (R1.out 1 _ rfl).1
  have lR1 := cell_lt cR10
  have cR20 := (R2.out 0 _ rfl).1
  have cR21 := (R2.out 1 _ rfl).1
  have lR2 := cell_lt cR20
  have cR30 := (R3.out 0 _ rfl).1
  have cR31 := (R3.out 1 _ rfl).1
  have lR3 := cell_lt cR30
  have SB : RowKit.Hid (∀ W, Kept w6 W → W.cell? ⟨w.heap.size, 0, none⟩ = some (.int .i64 m) ∧ W.cell? ⟨w.heap.size, 1, none⟩ = some (.int .i64 d) ∧ W.cell? ⟨w.heap.size + 1, 0, none⟩ = some (.int .i64 m2) ∧ W.cell? ⟨w.heap.size + 1, 1, none⟩ = some (.int .i64 d2) ∧ W.cell? ⟨w1.heap.size, 0, none⟩ = some (.int .i64 rm) ∧ W.cell? ⟨w1.heap.size, 1, none⟩ = some (.int .i64 rd) ∧ W.cell? ⟨w2.heap.size, 0, none⟩ = some (.int .i64 rm) ∧ W.cell? ⟨w2.heap.size, 1, none⟩ = some (.int .i64 rd) ∧ Kept w6 W) := Lib.hid (fun W hW => ⟨((R0.out.kept hW) 0 _ rfl).1, ((R0.out.kept hW) 1 _ rfl).1, ((R1.out.kept hW) 0 _ rfl).1, ((R1.out.kept hW) 1 _ rfl).1, ((R2.out.kept hW) 0 _ rfl).1, ((R2.out.kept hW) 1 _ rfl).1, ((R3.out.kept hW) 0 _ rfl).1, ((R3.out.kept hW) 1 _ rfl).1, hW⟩)
  have SST : RowKit.Hid (∀ W W', (W.cell? ⟨w.heap.size, 0, none⟩ = some (.int .i64 m) ∧ W.cell? ⟨w.heap.size, 1, none⟩ = some (.int .i64 d) ∧ W.cell? ⟨w.heap.size + 1, 0, none⟩ = some (.int .i64 m2) ∧ W.cell? ⟨w.heap.size + 1, 1, none⟩ = some (.int .i64 d2) ∧ W.cell? ⟨w1.heap.size, 0, none⟩ = some (.int .i64 rm) ∧ W.cell? ⟨w1.heap.size, 1, none⟩ = some (.int .i64 rd) ∧ W.cell? ⟨w2.heap.size, 0, none⟩ = some (.int .i64 rm) ∧ W.cell? ⟨w2.heap.size, 1, none⟩ = some (.int .i64 rd) ∧ Kept w6 W) → Kept W W' → W'.cell? ⟨w.heap.size, 0, none⟩ = some (.int .i64 m) ∧ W'.cell? ⟨w.heap.size, 1, none⟩ = some (.int .i64 d) ∧ W'.cell? ⟨w.heap.size + 1, 0, none⟩ = some (.int .i64 m2) ∧ W'.cell? ⟨w.heap.size + 1, 1, none⟩ = some (.int .i64 d2) ∧ W'.cell? ⟨w1.heap.size, 0, none⟩ = some (.int .i64 rm) ∧ W'.cell? ⟨w1.heap.size, 1, none⟩ = some (.int .i64 rd) ∧ W'.cell? ⟨w2.heap.size, 0, none⟩ = some (.int .i64 rm) ∧ W'.cell? ⟨w2.heap.size, 1, none⟩ = some (.int .i64 rd) ∧ Kept w6 W') := Lib.hid (fun W W' h hk => SB.out W' (h.2.2.2.2.2.2.2.2.trans hk))
  have HC30 : RowKit.Hid (∀ W, Calls Try.prog 30 #[] W fun e w' => e = .returned (.bool true) ∧ Kept W w') := Lib.hid (fun W => counted_any W)
  have HS1 : RowKit.Hid (∀ W, (W.cell? ⟨w.heap.size, 0, none⟩ = some (.int .i64 m) ∧ W.cell? ⟨w.heap.size, 1, none⟩ = some (.int .i64 d) ∧ W.cell? ⟨w.heap.size + 1, 0, none⟩ = some (.int .i64 m2) ∧ W.cell? ⟨w.heap.size + 1, 1, none⟩ = some (.int .i64 d2) ∧ W.cell? ⟨w1.heap.size, 0, none⟩ = some (.int .i64 rm) ∧ W.cell? ⟨w1.heap.size, 1, none⟩ = some (.int .i64 rd) ∧ W.cell? ⟨w2.heap.size, 0, none⟩ = some (.int .i64 rm) ∧ W.cell? ⟨w2.heap.size, 1, none⟩ = some (.int .i64 rd) ∧ Kept w6 W) → Calls Try.prog 39 #[.slice A1 n1 c1, .slice A2 n2 c2] W fun e w' => e = .returned (.bool true) ∧ Kept W w') := Lib.hid (fun W h => by
    have := sameInts_any A1 n1 c1 wy A2 n2 c2 wy W (I1.out.kept h.2.2.2.2.2.2.2.2) (I2.out.kept h.2.2.2.2.2.2.2.2)
    rwa [show sameB wy wy = true by simp [sameB]] at this)
  have HS2 : RowKit.Hid (∀ W, (W.cell? ⟨w.heap.size, 0, none⟩ = some (.int .i64 m) ∧ W.cell? ⟨w.heap.size, 1, none⟩ = some (.int .i64 d) ∧ W.cell? ⟨w.heap.size + 1, 0, none⟩ = some (.int .i64 m2) ∧ W.cell? ⟨w.heap.size + 1, 1, none⟩ = some (.int .i64 d2) ∧ W.cell? ⟨w1.heap.size, 0, none⟩ = some (.int .i64 rm) ∧ W.cell? ⟨w1.heap.size, 1, none⟩ = some (.int .i64 rd) ∧ W.cell? ⟨w2.heap.size, 0, none⟩ = some (.int .i64 rm) ∧ W.cell? ⟨w2.heap.size, 1, none⟩ = some (.int .i64 rd) ∧ Kept w6 W) → Calls Try.prog 39 #[.slice A3 n3 c3, .slice A4 n4 c4] W fun e w' => e = .returned (.bool true) ∧ Kept W w') := Lib.hid (fun W h => by
    have := sameInts_any A3 n3 c3 wg A4 n4 c4 wg W (I3.out.kept h.2.2.2.2.2.2.2.2) (I4.out.kept h.2.2.2.2.2.2.2.2)
    rwa [show sameB wg wg = true by simp [sameB]] at this)
  have SA := Lib.hid (SB.out _ ((Kept.refl _).drew))
  clear H49 H50 H51 H52 H53 H54
  go_upto_region 9 with (fail)
  go_region_held3 (fun W => W.cell? ⟨w.heap.size, 0, none⟩ = some (.int .i64 m) ∧ W.cell? ⟨w.heap.size, 1, none⟩ = some (.int .i64 d) ∧ W.cell? ⟨w.heap.size + 1, 0, none⟩ = some (.int .i64 m2) ∧ W.cell? ⟨w.heap.size + 1, 1, none⟩ = some (.int .i64 d2) ∧ W.cell? ⟨w1.heap.size, 0, none⟩ = some (.int .i64 rm) ∧ W.cell? ⟨w1.heap.size, 1, none⟩ = some (.int .i64 rd) ∧ W.cell? ⟨w2.heap.size, 0, none⟩ = some (.int .i64 rm) ∧ W.cell? ⟨w2.heap.size, 1, none⟩ = some (.int .i64 rd) ∧ Kept w6 W) (first | (with_reducible exact SA.out) | (with_reducible assumption) | (with_reducible refine SST.out _ _ ?_ hkk; assumption) | fail) (first | fail | (go_at_call 30; refine (HC30.out _).mono ?_; rintro e w' ⟨rfl, hkk⟩) | (go_at_call 55; refine (H55.out _).mono ?_; rintro e w' ⟨rfl, hkk⟩) | (go_at_call 56; refine (H56.out _).mono ?_; rintro e w' ⟨rfl, hkk⟩) | (go_at_call 39; (with_reducible refine (HS1.out _ (by assumption)).mono ?_); rintro e w' ⟨rfl, hkk⟩) | (go_at_call 39; (with_reducible refine (HS2.out _ (by assumption)).mono ?_); rintro e w' ⟨rfl, hkk⟩))
  obtain ⟨_, _, _, _, _, _, _, _, hz⟩ := ‹_ ∧ _›
  go_wp2
  go_ret
  exact ⟨by simp, K0.out.trans hz⟩
end Go.Proofs.Ytjaicilnlgjdcaa
