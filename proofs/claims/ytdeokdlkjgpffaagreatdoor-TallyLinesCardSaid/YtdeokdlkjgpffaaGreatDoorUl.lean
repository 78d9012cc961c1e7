/- the laws' sample -/
import Derived.Test.YtdeokdlkjgpffaaGreatDoorUk
namespace Go.Proofs.YtdeokdlkjgpffaaGreatDoor
set_option linter.all false
open Go.RowKit

theorem recs_at (W : World) (b : Nat) (h : RowC W b [.int .i64 1, .int .i64 0, .int .i64 0, .int .i64 3, .int .i64 200, .int .i64 190, .int .i64 2, .int .i64 0, .int .i64 0, .int .i64 3, .int .i64 100, .int .i64 103]) : RcA W (some ⟨b, 0, none⟩) 2 2 [x1, x2] := by
  refine ⟨rfl, by omega, by omega, fun _ => ⟨b, 0, rfl, fun i x hx => ?_⟩⟩
  match i with
  | 0 => simp at hx; subst hx; exact ⟨(h 0 _ rfl).1, (h 1 _ rfl).1, (h 2 _ rfl).1, (h 3 _ rfl).1, (h 4 _ rfl).1, (h 5 _ rfl).1⟩
  | 1 => simp at hx; subst hx; exact ⟨(h 6 _ rfl).1, (h 7 _ rfl).1, (h 8 _ rfl).1, (h 9 _ rfl).1, (h 10 _ rfl).1, (h 11 _ rfl).1⟩
  | i + 2 => simp at hx
theorem two_at (W : World) (b : Nat) (h : RowC W b [.int .i64 1, .int .i64 2]) : IntA W (some ⟨b, 0, none⟩) 2 2 [1, 2] := by
  refine ⟨rfl, by omega, by omega, fun _ => ⟨b, 0, rfl, fun i x hx => ?_⟩⟩
  match i with
  | 0 => simp at hx; subst hx; exact (h 0 _ rfl).1
  | 1 => simp at hx; subst hx; exact (h 1 _ rfl).1
  | i + 2 => simp at hx

set_option maxRecDepth 100000 in
set_option maxHeartbeats 4000000 in
theorem counted_any (w : World) : Calls Tryz.prog 5 #[] w fun e w' => e = .returned (.bool true) ∧ Kept w w' := by
  have H18 : RowKit.Hid (∀ W, Calls Tryz.prog 15 #[.agg #[.int .i64 50, .int .i64 20], .int .i64 200] W fun e w' => e = .returned (.tuple #[.int .i64 190, .int .i64 204, .int .i64 0]) ∧ Kept W w') := Lib.hid (fun W => (shown_any 50 20 200 W).mono fun _ _ ⟨he, hk⟩ => ⟨by rw [he, v_sh.1, v_sh.2.1, v_sh.2.2]; rfl, hk⟩)
  have H24 : RowKit.Hid (∀ W, Calls Tryz.prog 16 #[.agg #[.int .i64 50, .int .i64 20], .int .i64 190] W fun e w' => e = .returned (.tuple #[.agg #[.int .i64 187, .int .i64 200, .bool true], .int .i64 0]) ∧ Kept W w') := Lib.hid (fun W => (true_any 50 20 190 W).mono fun _ _ ⟨he, hk⟩ => ⟨by rw [he, v_tr, v_trOk]; rfl, hk⟩)
  have H26 : RowKit.Hid (∀ W, Calls Tryz.prog 17 #[.agg #[.int .i64 50, .int .i64 20], .agg #[.int .i64 1, .int .i64 0, .int .i64 1, .int .i64 190, .int .i64 10]] W fun e w' => e = .returned (.tuple #[.agg #[.int .i64 187, .int .i64 210, .bool true], .int .i64 0]) ∧ Kept W w') := Lib.hid (fun W => (ofCount_any 50 20 1 0 1 190 10 W).mono fun _ _ ⟨he, hk⟩ => ⟨by rw [he, v_oc, v_ocOk]; rfl, hk⟩)
  have H33 : RowKit.Hid (∀ W, Calls Tryz.prog 18 #[.agg #[.int .i64 5, .int .i64 9, .bool true], .agg #[.int .i64 8, .int .i64 12, .bool true]] W fun e w' => e = .returned (.agg #[.int .i64 8, .int .i64 9, .bool true]) ∧ Kept W w') := Lib.hid (fun W => (both_any 5 9 true 8 12 true W).mono fun _ _ ⟨he, hk⟩ => ⟨by rw [he, v_bo], hk⟩)
  have HM1 : RowKit.Hid (∀ W, Calls Tryz.prog 19 #[.int .i64 200, .int .i64 190] W fun e w' => e = .returned (.tuple #[.int .i64 50, .bool true]) ∧ Kept W w') := Lib.hid (fun W => (misses_any 200 190 W).mono fun _ _ ⟨he, hk⟩ => ⟨by rw [he, v_m1.1, v_m1.2], hk⟩)
  have HD1 : RowKit.Hid (∀ W, Calls Tryz.prog 20 #[.int .i64 200, .int .i64 205] W fun e w' => e = .returned (.tuple #[.int .i64 25, .bool true]) ∧ Kept W w') := Lib.hid (fun W => (doubles_any 200 205 W).mono fun _ _ ⟨he, hk⟩ => ⟨by rw [he, v_d1.1, v_d1.2], hk⟩)
  have HM2 : RowKit.Hid (∀ W, Calls Tryz.prog 19 #[.int .i64 10, .int .i64 4] W fun e w' => e = .returned (.tuple #[.int .i64 0, .bool false]) ∧ Kept W w') := Lib.hid (fun W => (misses_any 10 4 W).mono fun _ _ ⟨he, hk⟩ => ⟨by rw [he, v_m2.1, v_m2.2], hk⟩)
  have H49 : RowKit.Hid (∀ W b, RowC W b [.int .i64 1, .int .i64 0, .int .i64 0, .int .i64 3, .int .i64 200, .int .i64 190, .int .i64 2, .int .i64 0, .int .i64 0, .int .i64 3, .int .i64 100, .int .i64 103] → Calls Tryz.prog 21 #[.agg #[.int .i64 10, .int .i64 10], .slice (some ⟨b, 0, none⟩) 2 2, .int .i64 3, .int .i64 0] W fun e w' => e = .returned (.tuple #[.agg #[.int .i64 50, .int .i64 30], .int .i64 0]) ∧ Kept W w') := Lib.hid (fun W b h => by
    have := rateOf_any 10 10 3 0 (some ⟨b, 0, none⟩) 2 2 [x1, x2] W (recs_at W b h) (by omega)
    rw [v_ra] at this
    exact this)
  have H51 : RowKit.Hid (∀ W b, RowC W b [.int .i64 1, .int .i64 0, .int .i64 0, .int .i64 3, .int .i64 200, .int .i64 190, .int .i64 2, .int .i64 0, .int .i64 0, .int .i64 3, .int .i64 100, .int .i64 103] → Calls Tryz.prog 22 #[.agg #[.int .i64 10, .int .i64 10], .slice (some ⟨b, 0, none⟩) 2 2, .int .i64 3, .int .i64 0] W (IdsRes W [1, 2] 0)) := Lib.hid (fun W b h => by
    have := why_any 10 10 3 0 (some ⟨b, 0, none⟩) 2 2 [x1, x2] W (recs_at W b h) (by omega)
    rw [v_wh] at this
    exact this)
  go_enter Tryz.func5, Tryz.ntmps5
  go_wp2_with fail
  obtain ⟨V1, hV1⟩ : ∃ V1, V1 = w.alloc (.cells #[.int .i64 50, .int .i64 20] 38) := ⟨_, rfl⟩
  rw [← hV1]
  have kV1 : Kept w V1 := by rw [hV1]; exact (Kept.refl _).alloc _
  have rrV1 : RowKit.Hid (RowC V1 w.heap.size [.int .i64 50, .int .i64 20]) := Lib.hid (by rw [hV1]; exact RowC.new _ _ 38)
  have kwV1 := Lib.hid kV1
  clear hV1 kV1
  have crr0 := (rrV1.out 0 _ rfl).1
  have crr1 := (rrV1.out 1 _ rfl).1
  refine (H18.out _).mono ?_
  rintro e u1 ⟨rfl, hk1⟩
  clear crr0 crr1
  have rru1 := Lib.hid (rrV1.out.kept hk1)
  clear rrV1
  have crr0 := (rru1.out 0 _ rfl).1
  have crr1 := (rru1.out 1 _ rfl).1
  have lrr := cell_lt crr0
  have kwu1 := Lib.hid (kwV1.out.trans hk1)
  clear hk1
  go_wp2_with fail
  obtain ⟨V2, hV2⟩ : ∃ V2, V2 = u1 := ⟨_, rfl⟩
  rw [← hV2]
  have kV2 : Kept u1 V2 := by rw [hV2]; exact Kept.refl _
  have rrV2 := Lib.hid (rru1.out.kept kV2)
  clear rru1
  have kwV2 := Lib.hid (kwu1.out.trans kV2)
  clear hV2 kV2
  have crr0 := (rrV2.out 0 _ rfl).1
  have crr1 := (rrV2.out 1 _ rfl).1
  refine (H24.out _).mono ?_
  rintro e u2 ⟨rfl, hk2⟩
  clear crr0 crr1
  have rru2 := Lib.hid (rrV2.out.kept hk2)
  clear rrV2
  have crr0 := (rru2.out 0 _ rfl).1
  have crr1 := (rru2.out 1 _ rfl).1
  have lrr := cell_lt crr0
  have kwu2 := Lib.hid (kwV2.out.trans hk2)
  clear hk2
  go_wp2_with fail
  obtain ⟨V3, hV3⟩ : ∃ V3, V3 = u2.alloc (.cells #[.int .i64 187, .int .i64 200, .bool true] 42) := ⟨_, rfl⟩
  rw [← hV3]
  have kV3 : Kept u2 V3 := by rw [hV3]; exact (Kept.refl _).alloc _
  have rrV3 := Lib.hid (rru2.out.kept kV3)
  clear rru2
  have r5V3 : RowKit.Hid (RowC V3 u2.heap.size [.int .i64 187, .int .i64 200, .bool true]) := Lib.hid (by rw [hV3]; exact RowC.new _ _ 42)
  have kwV3 := Lib.hid (kwu2.out.trans kV3)
  clear hV3 kV3
  have crr0 := (rrV3.out 0 _ rfl).1
  have crr1 := (rrV3.out 1 _ rfl).1
  have cr50 := (r5V3.out 0 _ rfl).1
  have cr51 := (r5V3.out 1 _ rfl).1
  have cr52 := (r5V3.out 2 _ rfl).1
  refine (H26.out _).mono ?_
  rintro e u3 ⟨rfl, hk3⟩
  clear crr0 crr1
  have rru3 := Lib.hid (rrV3.out.kept hk3)
  clear rrV3
  have crr0 := (rru3.out 0 _ rfl).1
  have crr1 := (rru3.out 1 _ rfl).1
  clear cr50 cr51 cr52
  have r5u3 := Lib.hid (r5V3.out.kept hk3)
  clear r5V3
  have cr50 := (r5u3.out 0 _ rfl).1
  have cr51 := (r5u3.out 1 _ rfl).1
  have cr52 := (r5u3.out 2 _ rfl).1
  have lrr := cell_lt crr0
  have lr5 := cell_lt cr50
  have kwu3 := Lib.hid (kwV3.out.trans hk3)
  clear hk3
  go_wp2_with fail
  obtain ⟨V4, hV4⟩ : ∃ V4, V4 = u3.alloc (.cells #[.int .i64 187, .int .i64 210, .bool true] 42) := ⟨_, rfl⟩
  rw [← hV4]
  have kV4 : Kept u3 V4 := by rw [hV4]; exact (Kept.refl _).alloc _
  have rrV4 := Lib.hid (rru3.out.kept kV4)
  clear rru3
  have r5V4 := Lib.hid (r5u3.out.kept kV4)
  clear r5u3
  have r7V4 : RowKit.Hid (RowC V4 u3.heap.size [.int .i64 187, .int .i64 210, .bool true]) := Lib.hid (by rw [hV4]; exact RowC.new _ _ 42)
  have kwV4 := Lib.hid (kwu3.out.trans kV4)
  clear hV4 kV4
  have crr0 := (rrV4.out 0 _ rfl).1
  have crr1 := (rrV4.out 1 _ rfl).1
  have cr50 := (r5V4.out 0 _ rfl).1
  have cr51 := (r5V4.out 1 _ rfl).1
  have cr52 := (r5V4.out 2 _ rfl).1
  have cr70 := (r7V4.out 0 _ rfl).1
  have cr71 := (r7V4.out 1 _ rfl).1
  have cr72 := (r7V4.out 2 _ rfl).1
  refine (H33.out _).mono ?_
  rintro e u4 ⟨rfl, hk4⟩
  clear crr0 crr1
  have rru4 := Lib.hid (rrV4.out.kept hk4)
  clear rrV4
  have crr0 := (rru4.out 0 _ rfl).1
  have crr1 := (rru4.out 1 _ rfl).1
  clear cr50 cr51 cr52
  have r5u4 := Lib.hid (r5V4.out.kept hk4)
  clear r5V4
  have cr50 := (r5u4.out 0 _ rfl).1
  have cr51 := (r5u4.out 1 _ rfl).1
  have cr52 := (r5u4.out 2 _ rfl).1
  clear cr70 cr71 cr72
  have r7u4 := Lib.hid (r7V4.out.kept hk4)
  clear r7V4
  have cr70 := (r7u4.out 0 _ rfl).1
  have cr71 := (r7u4.out 1 _ rfl).1
  have cr72 := (r7u4.out 2 _ rfl).1
  have lrr := cell_lt crr0
  have lr5 := cell_lt cr50
  have lr7 := cell_lt cr70
  have kwu4 := Lib.hid (kwV4.out.trans hk4)
  clear hk4
  go_wp2_with fail
  obtain ⟨V5, hV5⟩ : ∃ V5, V5 = u4.alloc (.cells #[.int .i64 8, .int .i64 9, .bool true] 42) := ⟨_, rfl⟩
  rw [← hV5]
  have kV5 : Kept u4 V5 := by rw [hV5]; exact (Kept.refl _).alloc _
  have rrV5 := Lib.hid (rru4.out.kept kV5)
  clear rru4
  have r5V5 := Lib.hid (r5u4.out.kept kV5)
  clear r5u4
  have r7V5 := Lib.hid (r7u4.out.kept kV5)
  clear r7u4
  have r9V5 : RowKit.Hid (RowC V5 u4.heap.size [.int .i64 8, .int .i64 9, .bool true]) := Lib.hid (by rw [hV5]; exact RowC.new _ _ 42)
  have kwV5 := Lib.hid (kwu4.out.trans kV5)
  clear hV5 kV5
  have crr0 := (rrV5.out 0 _ rfl).1
  have crr1 := (rrV5.out 1 _ rfl).1
  have cr50 := (r5V5.out 0 _ rfl).1
  have cr51 := (r5V5.out 1 _ rfl).1
  have cr52 := (r5V5.out 2 _ rfl).1
  have cr70 := (r7V5.out 0 _ rfl).1
  have cr71 := (r7V5.out 1 _ rfl).1
  have cr72 := (r7V5.out 2 _ rfl).1
  have cr90 := (r9V5.out 0 _ rfl).1
  have cr91 := (r9V5.out 1 _ rfl).1
  have cr92 := (r9V5.out 2 _ rfl).1
  refine (HM1.out _).mono ?_
  rintro e u5 ⟨rfl, hk5⟩
  clear crr0 crr1
  have rru5 := Lib.hid (rrV5.out.kept hk5)
  clear rrV5
  have crr0 := (rru5.out 0 _ rfl).1
  have crr1 := (rru5.out 1 _ rfl).1
  clear cr50 cr51 cr52
  have r5u5 := Lib.hid (r5V5.out.kept hk5)
  clear r5V5
  have cr50 := (r5u5.out 0 _ rfl).1
  have cr51 := (r5u5.out 1 _ rfl).1
  have cr52 := (r5u5.out 2 _ rfl).1
  clear cr70 cr71 cr72
  have r7u5 := Lib.hid (r7V5.out.kept hk5)
  clear r7V5
  have cr70 := (r7u5.out 0 _ rfl).1
  have cr71 := (r7u5.out 1 _ rfl).1
  have cr72 := (r7u5.out 2 _ rfl).1
  clear cr90 cr91 cr92
  have r9u5 := Lib.hid (r9V5.out.kept hk5)
  clear r9V5
  have cr90 := (r9u5.out 0 _ rfl).1
  have cr91 := (r9u5.out 1 _ rfl).1
  have cr92 := (r9u5.out 2 _ rfl).1
  have lrr := cell_lt crr0
  have lr5 := cell_lt cr50
  have lr7 := cell_lt cr70
  have lr9 := cell_lt cr90
  have kwu5 := Lib.hid (kwV5.out.trans hk5)
  clear hk5
  go_wp2_with fail
  obtain ⟨V6, hV6⟩ : ∃ V6, V6 = u5 := ⟨_, rfl⟩
  rw [← hV6]
  have kV6 : Kept u5 V6 := by rw [hV6]; exact Kept.refl _
  have rrV6 := Lib.hid (rru5.out.kept kV6)
  clear rru5
  have r5V6 := Lib.hid (r5u5.out.kept kV6)
  clear r5u5
  have r7V6 := Lib.hid (r7u5.out.kept kV6)
  clear r7u5
  have r9V6 := Lib.hid (r9u5.out.kept kV6)
  clear r9u5
  have kwV6 := Lib.hid (kwu5.out.trans kV6)
  clear hV6 kV6
  have crr0 := (rrV6.out 0 _ rfl).1
  have crr1 := (rrV6.out 1 _ rfl).1
  have cr50 := (r5V6.out 0 _ rfl).1
  have cr51 := (r5V6.out 1 _ rfl).1
  have cr52 := (r5V6.out 2 _ rfl).1
  have cr70 := (r7V6.out 0 _ rfl).1
  have cr71 := (r7V6.out 1 _ rfl).1
  have cr72 := (r7V6.out 2 _ rfl).1
  have cr90 := (r9V6.out 0 _ rfl).1
  have cr91 := (r9V6.out 1 _ rfl).1
  have cr92 := (r9V6.out 2 _ rfl).1
  refine (HD1.out _).mono ?_
  rintro e u6 ⟨rfl, hk6⟩
  clear crr0 crr1
  have rru6 := Lib.hid (rrV6.out.kept hk6)
  clear rrV6
  have crr0 := (rru6.out 0 _ rfl).1
  have crr1 := (rru6.out 1 _ rfl).1
  clear cr50 cr51 cr52
  have r5u6 := Lib.hid (r5V6.out.kept hk6)
  clear r5V6
  have cr50 := (r5u6.out 0 _ rfl).1
  have cr51 := (r5u6.out 1 _ rfl).1
  have cr52 := (r5u6.out 2 _ rfl).1
  clear cr70 cr71 cr72
  have r7u6 := Lib.hid (r7V6.out.kept hk6)
  clear r7V6
  have cr70 := (r7u6.out 0 _ rfl).1
  have cr71 := (r7u6.out 1 _ rfl).1
  have cr72 := (r7u6.out 2 _ rfl).1
  clear cr90 cr91 cr92
  have r9u6 := Lib.hid (r9V6.out.kept hk6)
  clear r9V6
  have cr90 := (r9u6.out 0 _ rfl).1
  have cr91 := (r9u6.out 1 _ rfl).1
  have cr92 := (r9u6.out 2 _ rfl).1
  have lrr := cell_lt crr0
  have lr5 := cell_lt cr50
  have lr7 := cell_lt cr70
  have lr9 := cell_lt cr90
  have kwu6 := Lib.hid (kwV6.out.trans hk6)
  clear hk6
  go_wp2_with fail
  obtain ⟨V7, hV7⟩ : ∃ V7, V7 = u6 := ⟨_, rfl⟩
  rw [← hV7]
  have kV7 : Kept u6 V7 := by rw [hV7]; exact Kept.refl _
  have rrV7 := Lib.hid (rru6.out.kept kV7)
  clear rru6
  have r5V7 := Lib.hid (r5u6.out.kept kV7)
  clear r5u6
  have r7V7 := Lib.hid (r7u6.out.kept kV7)
  clear r7u6
  have r9V7 := Lib.hid (r9u6.out.kept kV7)
  clear r9u6
  have kwV7 := Lib.hid (kwu6.out.trans kV7)
  clear hV7 kV7
  have crr0 := (rrV7.out 0 _ rfl).1
  have crr1 := (rrV7.out 1 _ rfl).1
  have cr50 := (r5V7.out 0 _ rfl).1
  have cr51 := (r5V7.out 1 _ rfl).1
  have cr52 := (r5V7.out 2 _ rfl).1
  have cr70 := (r7V7.out 0 _ rfl).1
  have cr71 := (r7V7.out 1 _ rfl).1
  have cr72 := (r7V7.out 2 _ rfl).1
  have cr90 := (r9V7.out 0 _ rfl).1
  have cr91 := (r9V7.out 1 _ rfl).1
  have cr92 := (r9V7.out 2 _ rfl).1
  refine (HM2.out _).mono ?_
  rintro e u7 ⟨rfl, hk7⟩
  clear crr0 crr1
  have rru7 := Lib.hid (rrV7.out.kept hk7)
  clear rrV7
  have crr0 := (rru7.out 0 _ rfl).1
  have crr1 := (rru7.out 1 _ rfl).1
  clear cr50 cr51 cr52
  have r5u7 := Lib.hid (r5V7.out.kept hk7)
  clear r5V7
  have cr50 := (r5u7.out 0 _ rfl).1
  have cr51 := (r5u7.out 1 _ rfl).1
  have cr52 := (r5u7.out 2 _ rfl).1
  clear cr70 cr71 cr72
  have r7u7 := Lib.hid (r7V7.out.kept hk7)
  clear r7V7
  have cr70 := (r7u7.out 0 _ rfl).1
  have cr71 := (r7u7.out 1 _ rfl).1
  have cr72 := (r7u7.out 2 _ rfl).1
  clear cr90 cr91 cr92
  have r9u7 := Lib.hid (r9V7.out.kept hk7)
  clear r9V7
  have cr90 := (r9u7.out 0 _ rfl).1
  have cr91 := (r9u7.out 1 _ rfl).1
  have cr92 := (r9u7.out 2 _ rfl).1
  have lrr := cell_lt crr0
  have lr5 := cell_lt cr50
  have lr7 := cell_lt cr70
  have lr9 := cell_lt cr90
  have kwu7 := Lib.hid (kwV7.out.trans hk7)
  clear hk7
  go_wp2_with fail
  obtain ⟨V8, hV8⟩ : ∃ V8, V8 = u7.alloc (.cells #[.int .i64 1, .int .i64 0, .int .i64 0, .int .i64 3, .int .i64 200, .int .i64 190, .int .i64 2, .int .i64 0, .int .i64 0, .int .i64 3, .int .i64 100, .int .i64 103] 25) := ⟨_, rfl⟩
  rw [← hV8]
  have kV8 : Kept u7 V8 := by rw [hV8]; exact (Kept.refl _).alloc _
  have rrV8 := Lib.hid (rru7.out.kept kV8)
  clear rru7
  have r5V8 := Lib.hid (r5u7.out.kept kV8)
  clear r5u7
  have r7V8 := Lib.hid (r7u7.out.kept kV8)
  clear r7u7
  have r9V8 := Lib.hid (r9u7.out.kept kV8)
  clear r9u7
  have rxV8 : RowKit.Hid (RowC V8 u7.heap.size [.int .i64 1, .int .i64 0, .int .i64 0, .int .i64 3, .int .i64 200, .int .i64 190, .int .i64 2, .int .i64 0, .int .i64 0, .int .i64 3, .int .i64 100, .int .i64 103]) := Lib.hid (by rw [hV8]; exact RowC.new _ _ 25)
  have kwV8 := Lib.hid (kwu7.out.trans kV8)
  clear hV8 kV8
  have crr0 := (rrV8.out 0 _ rfl).1
  have crr1 := (rrV8.out 1 _ rfl).1
  have cr50 := (r5V8.out 0 _ rfl).1
  have cr51 := (r5V8.out 1 _ rfl).1
  have cr52 := (r5V8.out 2 _ rfl).1
  have cr70 := (r7V8.out 0 _ rfl).1
  have cr71 := (r7V8.out 1 _ rfl).1
  have cr72 := (r7V8.out 2 _ rfl).1
  have cr90 := (r9V8.out 0 _ rfl).1
  have cr91 := (r9V8.out 1 _ rfl).1
  have cr92 := (r9V8.out 2 _ rfl).1
  have crx0 := (rxV8.out 0 _ rfl).1
  have crx1 := (rxV8.out 1 _ rfl).1
  have crx2 := (rxV8.out 2 _ rfl).1
  have crx3 := (rxV8.out 3 _ rfl).1
  have crx4 := (rxV8.out 4 _ rfl).1
  have crx5 := (rxV8.out 5 _ rfl).1
  have crx6 := (rxV8.out 6 _ rfl).1
  have crx7 := (rxV8.out 7 _ rfl).1
  have crx8 := (rxV8.out 8 _ rfl).1
  have crx9 := (rxV8.out 9 _ rfl).1
  have crx10 := (rxV8.out 10 _ rfl).1
  have crx11 := (rxV8.out 11 _ rfl).1
  refine (H49.out _ _ rxV8.out).mono ?_
  rintro e u8 ⟨rfl, hk8⟩
  clear crr0 crr1
  have rru8 := Lib.hid (rrV8.out.kept hk8)
  clear rrV8
  have crr0 := (rru8.out 0 _ rfl).1
  have crr1 := (rru8.out 1 _ rfl).1
  clear cr50 cr51 cr52
  have r5u8 := Lib.hid (r5V8.out.kept hk8)
  clear r5V8
  have cr50 := (r5u8.out 0 _ rfl).1
  have cr51 := (r5u8.out 1 _ rfl).1
  have cr52 := (r5u8.out 2 _ rfl).1
  clear cr70 cr71 cr72
  have r7u8 := Lib.hid (r7V8.out.kept hk8)
  clear r7V8
  have cr70 := (r7u8.out 0 _ rfl).1
  have cr71 := (r7u8.out 1 _ rfl).1
  have cr72 := (r7u8.out 2 _ rfl).1
  clear cr90 cr91 cr92
  have r9u8 := Lib.hid (r9V8.out.kept hk8)
  clear r9V8
  have cr90 := (r9u8.out 0 _ rfl).1
  have cr91 := (r9u8.out 1 _ rfl).1
  have cr92 := (r9u8.out 2 _ rfl).1
  clear crx0 crx1 crx2 crx3 crx4 crx5 crx6 crx7 crx8 crx9 crx10 crx11
  have rxu8 := Lib.hid (rxV8.out.kept hk8)
  clear rxV8
  have crx0 := (rxu8.out 0 _ rfl).1
  have crx1 := (rxu8.out 1 _ rfl).1
  have crx2 := (rxu8.out 2 _ rfl).1
  have crx3 := (rxu8.out 3 _ rfl).1
  have crx4 := (rxu8.out 4 _ rfl).1
  have crx5 := (rxu8.out 5 _ rfl).1
  have crx6 := (rxu8.out 6 _ rfl).1
  have crx7 := (rxu8.out 7 _ rfl).1
  have crx8 := (rxu8.out 8 _ rfl).1
  have crx9 := (rxu8.out 9 _ rfl).1
  have crx10 := (rxu8.out 10 _ rfl).1
  have crx11 := (rxu8.out 11 _ rfl).1
  have lrr := cell_lt crr0
  have lr5 := cell_lt cr50
  have lr7 := cell_lt cr70
  have lr9 := cell_lt cr90
  have lrx := cell_lt crx0
  have kwu8 := Lib.hid (kwV8.out.trans hk8)
  clear hk8
  go_wp2_with fail
  obtain ⟨V9, hV9⟩ : ∃ V9, V9 = u8.alloc (.cells #[.int .i64 50, .int .i64 30] 38) := ⟨_, rfl⟩
  rw [← hV9]
  have kV9 : Kept u8 V9 := by rw [hV9]; exact (Kept.refl _).alloc _
  have rrV9 := Lib.hid (rru8.out.kept kV9)
  clear rru8
  have r5V9 := Lib.hid (r5u8.out.kept kV9)
  clear r5u8
  have r7V9 := Lib.hid (r7u8.out.kept kV9)
  clear r7u8
  have r9V9 := Lib.hid (r9u8.out.kept kV9)
  clear r9u8
  have rxV9 := Lib.hid (rxu8.out.kept kV9)
  clear rxu8
  have r17V9 : RowKit.Hid (RowC V9 u8.heap.size [.int .i64 50, .int .i64 30]) := Lib.hid (by rw [hV9]; exact RowC.new _ _ 38)
  have kwV9 := Lib.hid (kwu8.out.trans kV9)
  clear hV9 kV9
  have crr0 := (rrV9.out 0 _ rfl).1
  have crr1 := (rrV9.out 1 _ rfl).1
  have cr50 := (r5V9.out 0 _ rfl).1
  have cr51 := (r5V9.out 1 _ rfl).1
  have cr52 := (r5V9.out 2 _ rfl).1
  have cr70 := (r7V9.out 0 _ rfl).1
  have cr71 := (r7V9.out 1 _ rfl).1
  have cr72 := (r7V9.out 2 _ rfl).1
  have cr90 := (r9V9.out 0 _ rfl).1
  have cr91 := (r9V9.out 1 _ rfl).1
  have cr92 := (r9V9.out 2 _ rfl).1
  have crx0 := (rxV9.out 0 _ rfl).1
  have crx1 := (rxV9.out 1 _ rfl).1
  have crx2 := (rxV9.out 2 _ rfl).1
  have crx3 := (rxV9.out 3 _ rfl).1
  have crx4 := (rxV9.out 4 _ rfl).1
  have crx5 := (rxV9.out 5 _ rfl).1
  have crx6 := (rxV9.out 6 _ rfl).1
  have crx7 := (rxV9.out 7 _ rfl).1
  have crx8 := (rxV9.out 8 _ rfl).1
  have crx9 := (rxV9.out 9 _ rfl).1
  have crx10 := (rxV9.out 10 _ rfl).1
  have crx11 := (rxV9.out 11 _ rfl).1
  have cr170 := (r17V9.out 0 _ rfl).1
  have cr171 := (r17V9.out 1 _ rfl).1
  refine (H51.out _ _ rxV9.out).mono ?_
  rintro e u9 ⟨A, nn, cc, rfl, hia, hk9⟩
  have HIA := Lib.hid hia
  clear hia
  clear crr0 crr1
  have rru9 := Lib.hid (rrV9.out.kept hk9)
  clear rrV9
  have crr0 := (rru9.out 0 _ rfl).1
  have crr1 := (rru9.out 1 _ rfl).1
  clear cr50 cr51 cr52
  have r5u9 := Lib.hid (r5V9.out.kept hk9)
  clear r5V9
  have cr50 := (r5u9.out 0 _ rfl).1
  have cr51 := (r5u9.out 1 _ rfl).1
  have cr52 := (r5u9.out 2 _ rfl).1
  clear cr70 cr71 cr72
  have r7u9 := Lib.hid (r7V9.out.kept hk9)
  clear r7V9
  have cr70 := (r7u9.out 0 _ rfl).1
  have cr71 := (r7u9.out 1 _ rfl).1
  have cr72 := (r7u9.out 2 _ rfl).1
  clear cr90 cr91 cr92
  have r9u9 := Lib.hid (r9V9.out.kept hk9)
  clear r9V9
  have cr90 := (r9u9.out 0 _ rfl).1
  have cr91 := (r9u9.out 1 _ rfl).1
  have cr92 := (r9u9.out 2 _ rfl).1
  clear crx0 crx1 crx2 crx3 crx4 crx5 crx6 crx7 crx8 crx9 crx10 crx11
  have rxu9 := Lib.hid (rxV9.out.kept hk9)
  clear rxV9
  have crx0 := (rxu9.out 0 _ rfl).1
  have crx1 := (rxu9.out 1 _ rfl).1
  have crx2 := (rxu9.out 2 _ rfl).1
  have crx3 := (rxu9.out 3 _ rfl).1
  have crx4 := (rxu9.out 4 _ rfl).1
  have crx5 := (rxu9.out 5 _ rfl).1
  have crx6 := (rxu9.out 6 _ rfl).1
  have crx7 := (rxu9.out 7 _ rfl).1
  have crx8 := (rxu9.out 8 _ rfl).1
  have crx9 := (rxu9.out 9 _ rfl).1
  have crx10 := (rxu9.out 10 _ rfl).1
  have crx11 := (rxu9.out 11 _ rfl).1
  clear cr170 cr171
  have r17u9 := Lib.hid (r17V9.out.kept hk9)
  clear r17V9
  have cr170 := (r17u9.out 0 _ rfl).1
  have cr171 := (r17u9.out 1 _ rfl).1
  have lrr := cell_lt crr0
  have lr5 := cell_lt cr50
  have lr7 := cell_lt cr70
  have lr9 := cell_lt cr90
  have lrx := cell_lt crx0
  have lr17 := cell_lt cr170
  have kwu9 := Lib.hid (kwV9.out.trans hk9)
  clear hk9
  go_wp2_with fail
  have H39 := sameInts_any A nn cc [1, 2] (some ⟨u9.heap.size, 0, none⟩) 2 2 [1, 2] (u9.alloc (.cells #[.int .i64 1, .int .i64 2] 3)) (HIA.out.kept ((Kept.refl _).alloc _)) (two_at _ _ (RowC.new u9 [.int .i64 1, .int .i64 2] 3))
  rw [show sameB [1, 2] [1, 2] = true from rfl] at H39
  refine H39.mono ?_
  rintro e w9 ⟨rfl, hk⟩
  go_wp2
  go_ret
  exact ⟨rfl, (kwu9.out.alloc _).trans hk⟩
end Go.Proofs.YtdeokdlkjgpffaaGreatDoor
