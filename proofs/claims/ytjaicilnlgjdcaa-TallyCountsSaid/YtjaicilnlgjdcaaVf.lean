/- TallyCounts -/
import Derived.Test.YtjaicilnlgjdcaaUl
import Derived.Test.YtjaicilnlgjdcaaVg
namespace Go.Proofs.Ytjaicilnlgjdcaa
set_option linter.all false
open Go.RowKit

set_option maxRecDepth 100000 in
set_option maxHeartbeats 4000000 in
theorem counts_any (m d n c i dy s nu x : Int) (w : World) :
    Calls Try.prog 3 #[.agg #[.int .i64 m, .int .i64 d], .int .i64 n, .int .i64 c, .agg #[.int .i64 i, .int .i64 dy, .int .i64 s, .int .i64 nu, .int .i64 x]] w fun e w' => e = .returned (.bool true) ∧ Kept w w' := by
  obtain ⟨a, ha⟩ : ∃ a, a = fitB m d n c := ⟨_, rfl⟩
  obtain ⟨e1, he1⟩ : ∃ e1, e1 = errI (fitOk m d n c) := ⟨_, rfl⟩
  obtain ⟨p, hp⟩ : ∃ p, p = shL m d n := ⟨_, rfl⟩
  obtain ⟨q, hq⟩ : ∃ q, q = shH m d n := ⟨_, rfl⟩
  obtain ⟨e2, he2⟩ : ∃ e2, e2 = errI (shOk m d n) := ⟨_, rfl⟩
  obtain ⟨e3, he3⟩ : ∃ e3, e3 = errI (rateB m d) := ⟨_, rfl⟩
  obtain ⟨e4, he4⟩ : ∃ e4, e4 = errI (countB i dy s nu x) := ⟨_, rfl⟩
  obtain ⟨ga, hga⟩ : ∃ ga, ga = gaI m d i dy s nu x := ⟨_, rfl⟩
  obtain ⟨e5, he5⟩ : ∃ e5, e5 = errI (trOk m d c) := ⟨_, rfl⟩
  obtain ⟨e6, he6⟩ : ∃ e6, e6 = errI (ocOk m d i dy s nu x) := ⟨_, rfl⟩
  obtain ⟨t1, t2, t3, ht⟩ : ∃ t1 t2 t3, trI m d c = (t1, t2, t3) := ⟨_, _, _, rfl⟩
  obtain ⟨o1, o2, o3, ho⟩ : ∃ o1 o2 o3, ocI m d i dy s nu x = (o1, o2, o3) := ⟨_, _, _, rfl⟩
  have H16 : RowKit.Hid (∀ W, Calls Try.prog 16 #[.agg #[.int .i64 m, .int .i64 d], .int .i64 n, .int .i64 c] W fun e w' => e = .returned (.tuple #[.bool a, .int .i64 e1]) ∧ Kept W w') := Lib.hid (fun W => by rw [ha, he1]; exact fits16_any m d n c W)
  have H17 : RowKit.Hid (∀ W, Calls Try.prog 17 #[.agg #[.int .i64 m, .int .i64 d], .int .i64 n, .int .i64 c] W fun e w' => e = .returned (.tuple #[.bool a, .int .i64 e1]) ∧ Kept W w') := Lib.hid (fun W => by rw [ha, he1]; exact rfits_any m d n c W)
  have H18 : RowKit.Hid (∀ W, Calls Try.prog 18 #[.agg #[.int .i64 m, .int .i64 d], .int .i64 n] W fun e w' => e = .returned (.tuple #[.int .i64 p, .int .i64 q, .int .i64 e2]) ∧ Kept W w') := Lib.hid (fun W => by rw [hp, hq, he2]; exact shown_any m d n W)
  have H19 : RowKit.Hid (∀ W, Calls Try.prog 19 #[.agg #[.int .i64 m, .int .i64 d], .int .i64 n] W fun e w' => e = .returned (.tuple #[.int .i64 p, .int .i64 q, .int .i64 e2]) ∧ Kept W w') := Lib.hid (fun W => by rw [hp, hq, he2]; exact rshown_any m d n W)
  have H20 : RowKit.Hid (∀ W, Calls Try.prog 20 #[.agg #[.int .i64 m, .int .i64 d]] W fun e w' => e = .returned (.int .i64 e3) ∧ Kept W w') := Lib.hid (fun W => by rw [he3]; exact checkRate_any m d W)
  have H21 : RowKit.Hid (∀ W, Calls Try.prog 21 #[.agg #[.int .i64 m, .int .i64 d]] W fun e w' => e = .returned (.int .i64 e3) ∧ Kept W w') := Lib.hid (fun W => by rw [he3]; exact rrate_any m d W)
  have H22 : RowKit.Hid (∀ W, Calls Try.prog 22 #[.agg #[.int .i64 i, .int .i64 dy, .int .i64 s, .int .i64 nu, .int .i64 x]] W fun e w' => e = .returned (.int .i64 e4) ∧ Kept W w') := Lib.hid (fun W => by rw [he4]; exact checkCount_any i dy s nu x W)
  have H23 : RowKit.Hid (∀ W, Calls Try.prog 23 #[.agg #[.int .i64 i, .int .i64 dy, .int .i64 s, .int .i64 nu, .int .i64 x]] W fun e w' => e = .returned (.int .i64 e4) ∧ Kept W w') := Lib.hid (fun W => by rw [he4]; exact rcount_any i dy s nu x W)
  have H24 : RowKit.Hid (∀ W, Calls Try.prog 24 #[.agg #[.int .i64 m, .int .i64 d], .int .i64 c] W fun e w' => e = .returned (.tuple #[.agg #[.int .i64 t1, .int .i64 t2, .bool t3], .int .i64 e5]) ∧ Kept W w') := Lib.hid (fun W => by have := true_any m d c W; rw [ht] at this; rw [he5]; exact this)
  have H25 : RowKit.Hid (∀ W, Calls Try.prog 25 #[.agg #[.int .i64 m, .int .i64 d], .int .i64 c] W fun e w' => e = .returned (.tuple #[.agg #[.int .i64 t1, .int .i64 t2, .bool t3], .int .i64 e5]) ∧ Kept W w') := Lib.hid (fun W => by have := rtrue_any m d c W; rw [ht] at this; rw [he5]; exact this)
  have H26 : RowKit.Hid (∀ W, Calls Try.prog 26 #[.agg #[.int .i64 m, .int .i64 d], .agg #[.int .i64 i, .int .i64 dy, .int .i64 s, .int .i64 nu, .int .i64 x]] W fun e w' => e = .returned (.tuple #[.agg #[.int .i64 o1, .int .i64 o2, .bool o3], .int .i64 e6]) ∧ Kept W w') := Lib.hid (fun W => by have := ofCount_any m d i dy s nu x W; rw [ho] at this; rw [he6]; exact this)
  have H27 : RowKit.Hid (∀ W, Calls Try.prog 27 #[.agg #[.int .i64 m, .int .i64 d], .agg #[.int .i64 i, .int .i64 dy, .int .i64 s, .int .i64 nu, .int .i64 x]] W fun e w' => e = .returned (.tuple #[.agg #[.int .i64 o1, .int .i64 o2, .bool o3], .int .i64 e6]) ∧ Kept W w') := Lib.hid (fun W => by have := rofCount_any m d i dy s nu x W; rw [ho] at this; rw [he6]; exact this)
  have H28 : RowKit.Hid (∀ W, Calls Try.prog 28 #[.agg #[.int .i64 m, .int .i64 d], .agg #[.int .i64 i, .int .i64 dy, .int .i64 s, .int .i64 nu, .int .i64 x]] W fun e w' => e = .returned (.tuple #[.int .i64 ga, .int .i64 e6]) ∧ Kept W w') := Lib.hid (fun W => by rw [hga, he6]; exact gathered_any m d i dy s nu x W)
  have H29 : RowKit.Hid (∀ W, Calls Try.prog 29 #[.agg #[.int .i64 m, .int .i64 d], .agg #[.int .i64 i, .int .i64 dy, .int .i64 s, .int .i64 nu, .int .i64 x]] W fun e w' => e = .returned (.tuple #[.int .i64 ga, .int .i64 e6]) ∧ Kept W w') := Lib.hid (fun W => by rw [hga, he6]; exact rgathered_any m d i dy s nu x W)
  clear ha he1 hp hq he2 he3 he4 hga he5 he6 ht ho
  go_enter Try.func3, Try.ntmps3
  go_wp2_with fail
  obtain ⟨V1, hV1⟩ : ∃ V1, V1 = (w.alloc (.cells #[.int .i64 m, .int .i64 d] 23)).alloc (.cells #[.int .i64 i, .int .i64 dy, .int .i64 s, .int .i64 nu, .int .i64 x] 25) := ⟨_, rfl⟩
  rw [← hV1]
  have kV1 : Kept w V1 := by rw [hV1]; exact ((Kept.refl _).alloc _).alloc _
  have r4V1 : RowKit.Hid (RowC V1 (w.heap.size) [.int .i64 m, .int .i64 d]) := Lib.hid (by rw [hV1]; exact ((RowC.new _ _ 23).kept ((Kept.refl _).alloc _)))
  have r7V1 : RowKit.Hid (RowC V1 (w.heap.size + 1) [.int .i64 i, .int .i64 dy, .int .i64 s, .int .i64 nu, .int .i64 x]) := Lib.hid (by rw [hV1]; exact (RowC.atn (vs := [.int .i64 i, .int .i64 dy, .int .i64 s, .int .i64 nu, .int .i64 x]) (by simp)))
  have kwV1 := Lib.hid kV1
  clear hV1 kV1
  have cr40 := (r4V1.out 0 _ rfl).1
  have cr41 := (r4V1.out 1 _ rfl).1
  have lr4 := cell_lt cr40
  have cr70 := (r7V1.out 0 _ rfl).1
  have cr71 := (r7V1.out 1 _ rfl).1
  have cr72 := (r7V1.out 2 _ rfl).1
  have cr73 := (r7V1.out 3 _ rfl).1
  have cr74 := (r7V1.out 4 _ rfl).1
  have lr7 := cell_lt cr70
  refine (H16.out _).mono ?_
  rintro e u1 ⟨rfl, hk1⟩
  have r4u1 := Lib.hid (r4V1.out.kept hk1)
  clear r4V1
  have r7u1 := Lib.hid (r7V1.out.kept hk1)
  clear r7V1
  have kwu1 := Lib.hid (kwV1.out.trans hk1)
  clear hk1
  clear cr40 cr41 lr4 cr70 cr71 cr72 cr73 cr74 lr7
  have cr40 := (r4u1.out 0 _ rfl).1
  have cr41 := (r4u1.out 1 _ rfl).1
  have lr4 := cell_lt cr40
  have cr70 := (r7u1.out 0 _ rfl).1
  have cr71 := (r7u1.out 1 _ rfl).1
  have cr72 := (r7u1.out 2 _ rfl).1
  have cr73 := (r7u1.out 3 _ rfl).1
  have cr74 := (r7u1.out 4 _ rfl).1
  have lr7 := cell_lt cr70
  go_wp2_with fail
  obtain ⟨V2, hV2⟩ : ∃ V2, V2 = u1 := ⟨_, rfl⟩
  rw [← hV2]
  have kV2 : Kept u1 V2 := by rw [hV2]; exact Kept.refl _
  have r4V2 := Lib.hid (r4u1.out.kept kV2)
  clear r4u1
  have r7V2 := Lib.hid (r7u1.out.kept kV2)
  clear r7u1
  have kwV2 := Lib.hid (kwu1.out.trans kV2)
  clear hV2 kV2
  clear cr40 cr41 lr4 cr70 cr71 cr72 cr73 cr74 lr7
  have cr40 := (r4V2.out 0 _ rfl).1
  have cr41 := (r4V2.out 1 _ rfl).1
  have lr4 := cell_lt cr40
  have cr70 := (r7V2.out 0 _ rfl).1
  have cr71 := (r7V2.out 1 _ rfl).1
  have cr72 := (r7V2.out 2 _ rfl).1
  have cr73 := (r7V2.out 3 _ rfl).1
  have cr74 := (r7V2.out 4 _ rfl).1
  have lr7 := cell_lt cr70
  refine (H17.out _).mono ?_
  rintro e u2 ⟨rfl, hk2⟩
  have r4u2 := Lib.hid (r4V2.out.kept hk2)
  clear r4V2
  have r7u2 := Lib.hid (r7V2.out.kept hk2)
  clear r7V2
  have kwu2 := Lib.hid (kwV2.out.trans hk2)
  clear hk2
  clear cr40 cr41 lr4 cr70 cr71 cr72 cr73 cr74 lr7
  have cr40 := (r4u2.out 0 _ rfl).1
  have cr41 := (r4u2.out 1 _ rfl).1
  have lr4 := cell_lt cr40
  have cr70 := (r7u2.out 0 _ rfl).1
  have cr71 := (r7u2.out 1 _ rfl).1
  have cr72 := (r7u2.out 2 _ rfl).1
  have cr73 := (r7u2.out 3 _ rfl).1
  have cr74 := (r7u2.out 4 _ rfl).1
  have lr7 := cell_lt cr70
  go_wp2_with fail
  obtain ⟨V3, hV3⟩ : ∃ V3, V3 = u2 := ⟨_, rfl⟩
  rw [← hV3]
  have kV3 : Kept u2 V3 := by rw [hV3]; exact Kept.refl _
  have r4V3 := Lib.hid (r4u2.out.kept kV3)
  clear r4u2
  have r7V3 := Lib.hid (r7u2.out.kept kV3)
  clear r7u2
  have kwV3 := Lib.hid (kwu2.out.trans kV3)
  clear hV3 kV3
  clear cr40 cr41 lr4 cr70 cr71 cr72 cr73 cr74 lr7
  have cr40 := (r4V3.out 0 _ rfl).1
  have cr41 := (r4V3.out 1 _ rfl).1
  have lr4 := cell_lt cr40
  have cr70 := (r7V3.out 0 _ rfl).1
  have cr71 := (r7V3.out 1 _ rfl).1
  have cr72 := (r7V3.out 2 _ rfl).1
  have cr73 := (r7V3.out 3 _ rfl).1
  have cr74 := (r7V3.out 4 _ rfl).1
  have lr7 := cell_lt cr70
  refine (H18.out _).mono ?_
  rintro e u3 ⟨rfl, hk3⟩
  have r4u3 := Lib.hid (r4V3.out.kept hk3)
  clear r4V3
  have r7u3 := Lib.hid (r7V3.out.kept hk3)
  clear r7V3
  have kwu3 := Lib.hid (kwV3.out.trans hk3)
  clear hk3
  clear cr40 cr41 lr4 cr70 cr71 cr72 cr73 cr74 lr7
  have cr40 := (r4u3.out 0 _ rfl).1
  have cr41 := (r4u3.out 1 _ rfl).1
  have lr4 := cell_lt cr40
  have cr70 := (r7u3.out 0 _ rfl).1
  have cr71 := (r7u3.out 1 _ rfl).1
  have cr72 := (r7u3.out 2 _ rfl).1
  have cr73 := (r7u3.out 3 _ rfl).1
  have cr74 := (r7u3.out 4 _ rfl).1
  have lr7 := cell_lt cr70
  go_wp2_with fail
  obtain ⟨V4, hV4⟩ : ∃ V4, V4 = u3 := ⟨_, rfl⟩
  rw [← hV4]
  have kV4 : Kept u3 V4 := by rw [hV4]; exact Kept.refl _
  have r4V4 := Lib.hid (r4u3.out.kept kV4)
  clear r4u3
  have r7V4 := Lib.hid (r7u3.out.kept kV4)
  clear r7u3
  have kwV4 := Lib.hid (kwu3.out.trans kV4)
  clear hV4 kV4
  clear cr40 cr41 lr4 cr70 cr71 cr72 cr73 cr74 lr7
  have cr40 := (r4V4.out 0 _ rfl).1
  have cr41 := (r4V4.out 1 _ rfl).1
  have lr4 := cell_lt cr40
  have cr70 := (r7V4.out 0 _ rfl).1
  have cr71 := (r7V4.out 1 _ rfl).1
  have cr72 := (r7V4.out 2 _ rfl).1
  have cr73 := (r7V4.out 3 _ rfl).1
  have cr74 := (r7V4.out 4 _ rfl).1
  have lr7 := cell_lt cr70
  refine (H19.out _).mono ?_
  rintro e u4 ⟨rfl, hk4⟩
  have r4u4 := Lib.hid (r4V4.out.kept hk4)
  clear r4V4
  have r7u4 := Lib.hid (r7V4.out.kept hk4)
  clear r7V4
  have kwu4 := Lib.hid (kwV4.out.trans hk4)
  clear hk4
  clear cr40 cr41 lr4 cr70 cr71 cr72 cr73 cr74 lr7
  have cr40 := (r4u4.out 0 _ rfl).1
  have cr41 := (r4u4.out 1 _ rfl).1
  have lr4 := cell_lt cr40
  have cr70 := (r7u4.out 0 _ rfl).1
  have cr71 := (r7u4.out 1 _ rfl).1
  have cr72 := (r7u4.out 2 _ rfl).1
  have cr73 := (r7u4.out 3 _ rfl).1
  have cr74 := (r7u4.out 4 _ rfl).1
  have lr7 := cell_lt cr70
  go_wp2_with fail
  have SB4 : RowKit.Hid (∀ W, Kept u4 W → W.cell? ⟨w.heap.size, 0, none⟩ = some (.int .i64 m) ∧ W.cell? ⟨w.heap.size, 1, none⟩ = some (.int .i64 d) ∧ W.cell? ⟨w.heap.size + 1, 0, none⟩ = some (.int .i64 i) ∧ W.cell? ⟨w.heap.size + 1, 1, none⟩ = some (.int .i64 dy) ∧ W.cell? ⟨w.heap.size + 1, 2, none⟩ = some (.int .i64 s) ∧ W.cell? ⟨w.heap.size + 1, 3, none⟩ = some (.int .i64 nu) ∧ W.cell? ⟨w.heap.size + 1, 4, none⟩ = some (.int .i64 x) ∧ Kept u4 W) := Lib.hid (fun W hW => ⟨((r4u4.out.kept hW) 0 _ rfl).1, ((r4u4.out.kept hW) 1 _ rfl).1, ((r7u4.out.kept hW) 0 _ rfl).1, ((r7u4.out.kept hW) 1 _ rfl).1, ((r7u4.out.kept hW) 2 _ rfl).1, ((r7u4.out.kept hW) 3 _ rfl).1, ((r7u4.out.kept hW) 4 _ rfl).1, hW⟩)
  have SST4 : RowKit.Hid (∀ W W', (W.cell? ⟨w.heap.size, 0, none⟩ = some (.int .i64 m) ∧ W.cell? ⟨w.heap.size, 1, none⟩ = some (.int .i64 d) ∧ W.cell? ⟨w.heap.size + 1, 0, none⟩ = some (.int .i64 i) ∧ W.cell? ⟨w.heap.size + 1, 1, none⟩ = some (.int .i64 dy) ∧ W.cell? ⟨w.heap.size + 1, 2, none⟩ = some (.int .i64 s) ∧ W.cell? ⟨w.heap.size + 1, 3, none⟩ = some (.int .i64 nu) ∧ W.cell? ⟨w.heap.size + 1, 4, none⟩ = some (.int .i64 x) ∧ Kept u4 W) → Kept W W' → W'.cell? ⟨w.heap.size, 0, none⟩ = some (.int .i64 m) ∧ W'.cell? ⟨w.heap.size, 1, none⟩ = some (.int .i64 d) ∧ W'.cell? ⟨w.heap.size + 1, 0, none⟩ = some (.int .i64 i) ∧ W'.cell? ⟨w.heap.size + 1, 1, none⟩ = some (.int .i64 dy) ∧ W'.cell? ⟨w.heap.size + 1, 2, none⟩ = some (.int .i64 s) ∧ W'.cell? ⟨w.heap.size + 1, 3, none⟩ = some (.int .i64 nu) ∧ W'.cell? ⟨w.heap.size + 1, 4, none⟩ = some (.int .i64 x) ∧ Kept u4 W') := Lib.hid (fun W W' h hk => SB4.out W' (h.2.2.2.2.2.2.2.trans hk))
  have SA4 := Lib.hid (SB4.out _ ((Kept.refl _).drew))
  go_region_held3 (fun W => W.cell? ⟨w.heap.size, 0, none⟩ = some (.int .i64 m) ∧ W.cell? ⟨w.heap.size, 1, none⟩ = some (.int .i64 d) ∧ W.cell? ⟨w.heap.size + 1, 0, none⟩ = some (.int .i64 i) ∧ W.cell? ⟨w.heap.size + 1, 1, none⟩ = some (.int .i64 dy) ∧ W.cell? ⟨w.heap.size + 1, 2, none⟩ = some (.int .i64 s) ∧ W.cell? ⟨w.heap.size + 1, 3, none⟩ = some (.int .i64 nu) ∧ W.cell? ⟨w.heap.size + 1, 4, none⟩ = some (.int .i64 x) ∧ Kept u4 W) (first | (with_reducible exact SA4.out) | (with_reducible refine SST4.out _ _ ?_ hkk; assumption) | fail) (first | fail | (go_at_call 20; refine (H20.out _).mono ?_; rintro e w' ⟨rfl, hkk⟩) | (go_at_call 21; refine (H21.out _).mono ?_; rintro e w' ⟨rfl, hkk⟩) | (go_at_call 22; refine (H22.out _).mono ?_; rintro e w' ⟨rfl, hkk⟩) | (go_at_call 23; refine (H23.out _).mono ?_; rintro e w' ⟨rfl, hkk⟩))
  obtain ⟨_, _, _, _, _, _, _, hz5⟩ := ‹_ ∧ _›
  rename World => z5
  clear SB4 SST4 SA4
  have r4z5 := Lib.hid (r4u4.out.kept hz5)
  clear r4u4
  have r7z5 := Lib.hid (r7u4.out.kept hz5)
  clear r7u4
  have kwz5 := Lib.hid (kwu4.out.trans hz5)
  clear hz5
  clear cr40 cr41 lr4 cr70 cr71 cr72 cr73 cr74 lr7
  have cr40 := (r4z5.out 0 _ rfl).1
  have cr41 := (r4z5.out 1 _ rfl).1
  have lr4 := cell_lt cr40
  have cr70 := (r7z5.out 0 _ rfl).1
  have cr71 := (r7z5.out 1 _ rfl).1
  have cr72 := (r7z5.out 2 _ rfl).1
  have cr73 := (r7z5.out 3 _ rfl).1
  have cr74 := (r7z5.out 4 _ rfl).1
  have lr7 := cell_lt cr70
  go_wp2_with fail
  obtain ⟨V6, hV6⟩ : ∃ V6, V6 = z5 := ⟨_, rfl⟩
  rw [← hV6]
  have kV6 : Kept z5 V6 := by rw [hV6]; exact Kept.refl _
  have r4V6 := Lib.hid (r4z5.out.kept kV6)
  clear r4z5
  have r7V6 := Lib.hid (r7z5.out.kept kV6)
  clear r7z5
  have kwV6 := Lib.hid (kwz5.out.trans kV6)
  clear hV6 kV6
  clear cr40 cr41 lr4 cr70 cr71 cr72 cr73 cr74 lr7
  have cr40 := (r4V6.out 0 _ rfl).1
  have cr41 := (r4V6.out 1 _ rfl).1
  have lr4 := cell_lt cr40
  have cr70 := (r7V6.out 0 _ rfl).1
  have cr71 := (r7V6.out 1 _ rfl).1
  have cr72 := (r7V6.out 2 _ rfl).1
  have cr73 := (r7V6.out 3 _ rfl).1
  have cr74 := (r7V6.out 4 _ rfl).1
  have lr7 := cell_lt cr70
  refine (H24.out _).mono ?_
  rintro e u6 ⟨rfl, hk6⟩
  have r4u6 := Lib.hid (r4V6.out.kept hk6)
  clear r4V6
  have r7u6 := Lib.hid (r7V6.out.kept hk6)
  clear r7V6
  have kwu6 := Lib.hid (kwV6.out.trans hk6)
  clear hk6
  clear cr40 cr41 lr4 cr70 cr71 cr72 cr73 cr74 lr7
  have cr40 := (r4u6.out 0 _ rfl).1
  have cr41 := (r4u6.out 1 _ rfl).1
  have lr4 := cell_lt cr40
  have cr70 := (r7u6.out 0 _ rfl).1
  have cr71 := (r7u6.out 1 _ rfl).1
  have cr72 := (r7u6.out 2 _ rfl).1
  have cr73 := (r7u6.out 3 _ rfl).1
  have cr74 := (r7u6.out 4 _ rfl).1
  have lr7 := cell_lt cr70
  go_wp2_with fail
  obtain ⟨V7, hV7⟩ : ∃ V7, V7 = u6.alloc (.cells #[.int .i64 t1, .int .i64 t2, .bool t3] 34) := ⟨_, rfl⟩
  rw [← hV7]
  have kV7 : Kept u6 V7 := by rw [hV7]; exact (Kept.refl _).alloc _
  have r4V7 := Lib.hid (r4u6.out.kept kV7)
  clear r4u6
  have r7V7 := Lib.hid (r7u6.out.kept kV7)
  clear r7u6
  have r19V7 : RowKit.Hid (RowC V7 (u6.heap.size) [.int .i64 t1, .int .i64 t2, .bool t3]) := Lib.hid (by rw [hV7]; exact (RowC.new _ _ 34))
  have kwV7 := Lib.hid (kwu6.out.trans kV7)
  clear hV7 kV7
  clear cr40 cr41 lr4 cr70 cr71 cr72 cr73 cr74 lr7
  have cr40 := (r4V7.out 0 _ rfl).1
  have cr41 := (r4V7.out 1 _ rfl).1
  have lr4 := cell_lt cr40
  have cr70 := (r7V7.out 0 _ rfl).1
  have cr71 := (r7V7.out 1 _ rfl).1
  have cr72 := (r7V7.out 2 _ rfl).1
  have cr73 := (r7V7.out 3 _ rfl).1
  have cr74 := (r7V7.out 4 _ rfl).1
  have lr7 := cell_lt cr70
  have cr190 := (r19V7.out 0 _ rfl).1
  have cr191 := (r19V7.out 1 _ rfl).1
  have cr192 := (r19V7.out 2 _ rfl).1
  have lr19 := cell_lt cr190
  refine (H25.out _).mono ?_
  rintro e u7 ⟨rfl, hk7⟩
  have r4u7 := Lib.hid (r4V7.out.kept hk7)
  clear r4V7
  have r7u7 := Lib.hid (r7V7.out.kept hk7)
  clear r7V7
  have r19u7 := Lib.hid (r19V7.out.kept hk7)
  clear r19V7
  have kwu7 := Lib.hid (kwV7.out.trans hk7)
  clear hk7
  clear cr40 cr41 lr4 cr70 cr71 cr72 cr73 cr74 lr7 cr190 cr191 cr192 lr19
  have cr40 := (r4u7.out 0 _ rfl).1
  have cr41 := (r4u7.out 1 _ rfl).1
  have lr4 := cell_lt cr40
  have cr70 := (r7u7.out 0 _ rfl).1
  have cr71 := (r7u7.out 1 _ rfl).1
  have cr72 := (r7u7.out 2 _ rfl).1
  have cr73 := (r7u7.out 3 _ rfl).1
  have cr74 := (r7u7.out 4 _ rfl).1
  have lr7 := cell_lt cr70
  have cr190 := (r19u7.out 0 _ rfl).1
  have cr191 := (r19u7.out 1 _ rfl).1
  have cr192 := (r19u7.out 2 _ rfl).1
  have lr19 := cell_lt cr190
  go_wp2_with fail
  obtain ⟨V8, hV8⟩ : ∃ V8, V8 = u7.alloc (.cells #[.int .i64 t1, .int .i64 t2, .bool t3] 34) := ⟨_, rfl⟩
  rw [← hV8]
  have kV8 : Kept u7 V8 := by rw [hV8]; exact (Kept.refl _).alloc _
  have r4V8 := Lib.hid (r4u7.out.kept kV8)
  clear r4u7
  have r7V8 := Lib.hid (r7u7.out.kept kV8)
  clear r7u7
  have r19V8 := Lib.hid (r19u7.out.kept kV8)
  clear r19u7
  have r21V8 : RowKit.Hid (RowC V8 (u7.heap.size) [.int .i64 t1, .int .i64 t2, .bool t3]) := Lib.hid (by rw [hV8]; exact (RowC.new _ _ 34))
  have kwV8 := Lib.hid (kwu7.out.trans kV8)
  clear hV8 kV8
  clear cr40 cr41 lr4 cr70 cr71 cr72 cr73 cr74 lr7 cr190 cr191 cr192 lr19
  have cr40 := (r4V8.out 0 _ rfl).1
  have cr41 := (r4V8.out 1 _ rfl).1
  have lr4 := cell_lt cr40
  have cr70 := (r7V8.out 0 _ rfl).1
  have cr71 := (r7V8.out 1 _ rfl).1
  have cr72 := (r7V8.out 2 _ rfl).1
  have cr73 := (r7V8.out 3 _ rfl).1
  have cr74 := (r7V8.out 4 _ rfl).1
  have lr7 := cell_lt cr70
  have cr190 := (r19V8.out 0 _ rfl).1
  have cr191 := (r19V8.out 1 _ rfl).1
  have cr192 := (r19V8.out 2 _ rfl).1
  have lr19 := cell_lt cr190
  have cr210 := (r21V8.out 0 _ rfl).1
  have cr211 := (r21V8.out 1 _ rfl).1
  have cr212 := (r21V8.out 2 _ rfl).1
  have lr21 := cell_lt cr210
  refine (H26.out _).mono ?_
  rintro e u8 ⟨rfl, hk8⟩
  have r4u8 := Lib.hid (r4V8.out.kept hk8)
  clear r4V8
  have r7u8 := Lib.hid (r7V8.out.kept hk8)
  clear r7V8
  have r19u8 := Lib.hid (r19V8.out.kept hk8)
  clear r19V8
  have r21u8 := Lib.hid (r21V8.out.kept hk8)
  clear r21V8
  have kwu8 := Lib.hid (kwV8.out.trans hk8)
  clear hk8
  clear cr40 cr41 lr4 cr70 cr71 cr72 cr73 cr74 lr7 cr190 cr191 cr192 lr19 cr210 cr211 cr212 lr21
  have cr40 := (r4u8.out 0 _ rfl).1
  have cr41 := (r4u8.out 1 _ rfl).1
  have lr4 := cell_lt cr40
  have cr70 := (r7u8.out 0 _ rfl).1
  have cr71 := (r7u8.out 1 _ rfl).1
  have cr72 := (r7u8.out 2 _ rfl).1
  have cr73 := (r7u8.out 3 _ rfl).1
  have cr74 := (r7u8.out 4 _ rfl).1
  have lr7 := cell_lt cr70
  have cr190 := (r19u8.out 0 _ rfl).1
  have cr191 := (r19u8.out 1 _ rfl).1
  have cr192 := (r19u8.out 2 _ rfl).1
  have lr19 := cell_lt cr190
  have cr210 := (r21u8.out 0 _ rfl).1
  have cr211 := (r21u8.out 1 _ rfl).1
  have cr212 := (r21u8.out 2 _ rfl).1
  have lr21 := cell_lt cr210
  go_wp2_with fail
  obtain ⟨V9, hV9⟩ : ∃ V9, V9 = u8.alloc (.cells #[.int .i64 o1, .int .i64 o2, .bool o3] 34) := ⟨_, rfl⟩
  rw [← hV9]
  have kV9 : Kept u8 V9 := by rw [hV9]; exact (Kept.refl _).alloc _
  have r4V9 := Lib.hid (r4u8.out.kept kV9)
  clear r4u8
  have r7V9 := Lib.hid (r7u8.out.kept kV9)
  clear r7u8
  have r19V9 := Lib.hid (r19u8.out.kept kV9)
  clear r19u8
  have r21V9 := Lib.hid (r21u8.out.kept kV9)
  clear r21u8
  have r23V9 : RowKit.Hid (RowC V9 (u8.heap.size) [.int .i64 o1, .int .i64 o2, .bool o3]) := Lib.hid (by rw [hV9]; exact (RowC.new _ _ 34))
  have kwV9 := Lib.hid (kwu8.out.trans kV9)
  clear hV9 kV9
  clear cr40 cr41 lr4 cr70 cr71 cr72 cr73 cr74 lr7 cr190 cr191 cr192 lr19 cr210 cr211 cr212 lr21
  have cr40 := (r4V9.out 0 _ rfl).1
  have cr41 := (r4V9.out 1 _ rfl).1
  have lr4 := cell_lt cr40
  have cr70 := (r7V9.out 0 _ rfl).1
  have cr71 := (r7V9.out 1 _ rfl).1
  have cr72 := (r7V9.out 2 _ rfl).1
  have cr73 := (r7V9.out 3 _ rfl).1
  have cr74 := (r7V9.out 4 _ rfl).1
  have lr7 := cell_lt cr70
  have cr190 := (r19V9.out 0 _ rfl).1
  have cr191 := (r19V9.out 1 _ rfl).1
  have cr192 := (r19V9.out 2 _ rfl).1
  have lr19 := cell_lt cr190
  have cr210 := (r21V9.out 0 _ rfl).1
  have cr211 := (r21V9.out 1 _ rfl).1
  have cr212 := (r21V9.out 2 _ rfl).1
  have lr21 := cell_lt cr210
  have cr230 := (r23V9.out 0 _ rfl).1
  have cr231 := (r23V9.out 1 _ rfl).1
  have cr232 := (r23V9.out 2 _ rfl).1
  have lr23 := cell_lt cr230
  refine (H27.out _).mono ?_
  rintro e u9 ⟨rfl, hk9⟩
  have r4u9 := Lib.hid (r4V9.out.kept hk9)
  clear r4V9
  have r7u9 := Lib.hid (r7V9.out.kept hk9)
  clear r7V9
  have r19u9 := Lib.hid (r19V9.out.kept hk9)
  clear r19V9
  have r21u9 := Lib.hid (r21V9.out.kept hk9)
  clear r21V9
  have r23u9 := Lib.hid (r23V9.out.kept hk9)
  clear r23V9
  have kwu9 := Lib.hid (kwV9.out.trans hk9)
  clear hk9
  clear cr40 cr41 lr4 cr70 cr71 cr72 cr73 cr74 lr7 cr190 cr191 cr192 lr19 cr210 cr211 cr212 lr21 cr230 cr231 cr232 lr23
  have cr40 := (r4u9.out 0 _ rfl).1
  have cr41 := (r4u9.out 1 _ rfl).1
  have lr4 := cell_lt cr40
  have cr70 := (r7u9.out 0 _ rfl).1
  have cr71 := (r7u9.out 1 _ rfl).1
  have cr72 := (r7u9.out 2 _ rfl).1
  have cr73 := (r7u9.out 3 _ rfl).1
  have cr74 := (r7u9.out 4 _ rfl).1
  have lr7 := cell_lt cr70
  have cr190 := (r19u9.out 0 _ rfl).1
  have cr191 := (r19u9.out 1 _ rfl).1
  have cr192 := (r19u9.out 2 _ rfl).1
  have lr19 := cell_lt cr190
  have cr210 := (r21u9.out 0 _ rfl).1
  have cr211 := (r21u9.out 1 _ rfl).1
  have cr212 := (r21u9.out 2 _ rfl).1
  have lr21 := cell_lt cr210
  have cr230 := (r23u9.out 0 _ rfl).1
  have cr231 := (r23u9.out 1 _ rfl).1
  have cr232 := (r23u9.out 2 _ rfl).1
  have lr23 := cell_lt cr230
  go_wp2_with fail
  obtain ⟨V10, hV10⟩ : ∃ V10, V10 = u9.alloc (.cells #[.int .i64 o1, .int .i64 o2, .bool o3] 34) := ⟨_, rfl⟩
  rw [← hV10]
  have kV10 : Kept u9 V10 := by rw [hV10]; exact (Kept.refl _).alloc _
  have r4V10 := Lib.hid (r4u9.out.kept kV10)
  clear r4u9
  have r7V10 := Lib.hid (r7u9.out.kept kV10)
  clear r7u9
  have r19V10 := Lib.hid (r19u9.out.kept kV10)
  clear r19u9
  have r21V10 := Lib.hid (r21u9.out.kept kV10)
  clear r21u9
  have r23V10 := Lib.hid (r23u9.out.kept kV10)
  clear r23u9
  have r25V10 : RowKit.Hid (RowC V10 (u9.heap.size) [.int .i64 o1, .int .i64 o2, .bool o3]) := Lib.hid (by rw [hV10]; exact (RowC.new _ _ 34))
  have kwV10 := Lib.hid (kwu9.out.trans kV10)
  clear hV10 kV10
  clear cr40 cr41 lr4 cr70 cr71 cr72 cr73 cr74 lr7 cr190 cr191 cr192 lr19 cr210 cr211 cr212 lr21 cr230 cr231 cr232 lr23
  have cr40 := (r4V10.out 0 _ rfl).1
  have cr41 := (r4V10.out 1 _ rfl).1
  have lr4 := cell_lt cr40
  have cr70 := (r7V10.out 0 _ rfl).1
  have cr71 := (r7V10.out 1 _ rfl).1
  have cr72 := (r7V10.out 2 _ rfl).1
  have cr73 := (r7V10.out 3 _ rfl).1
  have cr74 := (r7V10.out 4 _ rfl).1
  have lr7 := cell_lt cr70
  have cr190 := (r19V10.out 0 _ rfl).1
  have cr191 := (r19V10.out 1 _ rfl).1
  have cr192 := (r19V10.out 2 _ rfl).1
  have lr19 := cell_lt cr190
  have cr210 := (r21V10.out 0 _ rfl).1
  have cr211 := (r21V10.out 1 _ rfl).1
  have cr212 := (r21V10.out 2 _ rfl).1
  have lr21 := cell_lt cr210
  have cr230 := (r23V10.out 0 _ rfl).1
  have cr231 := (r23V10.out 1 _ rfl).1
  have cr232 := (r23V10.out 2 _ rfl).1
  have lr23 := cell_lt cr230
  have cr250 := (r25V10.out 0 _ rfl).1
  have cr251 := (r25V10.out 1 _ rfl).1
  have cr252 := (r25V10.out 2 _ rfl).1
  have lr25 := cell_lt cr250
  refine (H28.out _).mono ?_
  rintro e u10 ⟨rfl, hk10⟩
  have r4u10 := Lib.hid (r4V10.out.kept hk10)
  clear r4V10
  have r7u10 := Lib.hid (r7V10.out.kept hk10)
  clear r7V10
  have r19u10 := Lib.hid (r19V10.out.kept hk10)
  clear r19V10
  have r21u10 := Lib.hid (r21V10.out.kept hk10)
  clear r21V10
  have r23u10 := Lib.hid (r23V10.out.kept hk10)
  clear r23V10
  have r25u10 := Lib.hid (r25V10.out.kept hk10)
  clear r25V10
  have kwu10 := Lib.hid (kwV10.out.trans hk10)
  clear hk10
  clear cr40 cr41 lr4 cr70 cr71 cr72 cr73 cr74 lr7 cr190 cr191 cr192 lr19 cr210 cr211 cr212 lr21 cr230 cr231 cr232 lr23 cr250 cr251 cr252 lr25
  have cr40 := (r4u10.out 0 _ rfl).1
  have cr41 := (r4u10.out 1 _ rfl).1
  have lr4 := cell_lt cr40
  have cr70 := (r7u10.out 0 _ rfl).1
  have cr71 := (r7u10.out 1 _ rfl).1
  have cr72 := (r7u10.out 2 _ rfl).1
  have cr73 := (r7u10.out 3 _ rfl).1
  have cr74 := (r7u10.out 4 _ rfl).1
  have lr7 := cell_lt cr70
  have cr190 := (r19u10.out 0 _ rfl).1
  have cr191 := (r19u10.out 1 _ rfl).1
  have cr192 := (r19u10.out 2 _ rfl).1
  have lr19 := cell_lt cr190
  have cr210 := (r21u10.out 0 _ rfl).1
  have cr211 := (r21u10.out 1 _ rfl).1
  have cr212 := (r21u10.out 2 _ rfl).1
  have lr21 := cell_lt cr210
  have cr230 := (r23u10.out 0 _ rfl).1
  have cr231 := (r23u10.out 1 _ rfl).1
  have cr232 := (r23u10.out 2 _ rfl).1
  have lr23 := cell_lt cr230
  have cr250 := (r25u10.out 0 _ rfl).1
  have cr251 := (r25u10.out 1 _ rfl).1
  have cr252 := (r25u10.out 2 _ rfl).1
  have lr25 := cell_lt cr250
  go_wp2_with fail
  obtain ⟨V11, hV11⟩ : ∃ V11, V11 = u10 := ⟨_, rfl⟩
  rw [← hV11]
  have kV11 : Kept u10 V11 := by rw [hV11]; exact Kept.refl _
  have r4V11 := Lib.hid (r4u10.out.kept kV11)
  clear r4u10
  have r7V11 := Lib.hid (r7u10.out.kept kV11)
  clear r7u10
  have r19V11 := Lib.hid (r19u10.out.kept kV11)
  clear r19u10
  have r21V11 := Lib.hid (r21u10.out.kept kV11)
  clear r21u10
  have r23V11 := Lib.hid (r23u10.out.kept kV11)
  clear r23u10
  have r25V11 := Lib.hid (r25u10.out.kept kV11)
  clear r25u10
  have kwV11 := Lib.hid (kwu10.out.trans kV11)
  clear hV11 kV11
  clear cr40 cr41 lr4 cr70 cr71 cr72 cr73 cr74 lr7 cr190 cr191 cr192 lr19 cr210 cr211 cr212 lr21 cr230 cr231 cr232 lr23 cr250 cr251 cr252 lr25
  have cr40 := (r4V11.out 0 _ rfl).1
  have cr41 := (r4V11.out 1 _ rfl).1
  have lr4 := cell_lt cr40
  have cr70 := (r7V11.out 0 _ rfl).1
  have cr71 := (r7V11.out 1 _ rfl).1
  have cr72 := (r7V11.out 2 _ rfl).1
  have cr73 := (r7V11.out 3 _ rfl).1
  have cr74 := (r7V11.out 4 _ rfl).1
  have lr7 := cell_lt cr70
  have cr190 := (r19V11.out 0 _ rfl).1
  have cr191 := (r19V11.out 1 _ rfl).1
  have cr192 := (r19V11.out 2 _ rfl).1
  have lr19 := cell_lt cr190
  have cr210 := (r21V11.out 0 _ rfl).1
  have cr211 := (r21V11.out 1 _ rfl).1
  have cr212 := (r21V11.out 2 _ rfl).1
  have lr21 := cell_lt cr210
  have cr230 := (r23V11.out 0 _ rfl).1
  have cr231 := (r23V11.out 1 _ rfl).1
  have cr232 := (r23V11.out 2 _ rfl).1
  have lr23 := cell_lt cr230
  have cr250 := (r25V11.out 0 _ rfl).1
  have cr251 := (r25V11.out 1 _ rfl).1
  have cr252 := (r25V11.out 2 _ rfl).1
  have lr25 := cell_lt cr250
  refine (H29.out _).mono ?_
  rintro e u11 ⟨rfl, hk11⟩
  have r4u11 := Lib.hid (r4V11.out.kept hk11)
  clear r4V11
  have r7u11 := Lib.hid (r7V11.out.kept hk11)
  clear r7V11
  have r19u11 := Lib.hid (r19V11.out.kept hk11)
  clear r19V11
  have r21u11 := Lib.hid (r21V11.out.kept hk11)
  clear r21V11
  have r23u11 := Lib.hid (r23V11.out.kept hk11)
  clear r23V11
  have r25u11 := Lib.hid (r25V11.out.kept hk11)
  clear r25V11
  have kwu11 := Lib.hid (kwV11.out.trans hk11)
  clear hk11
  clear cr40 cr41 lr4 cr70 cr71 cr72 cr73 cr74 lr7 cr190 cr191 cr192 lr19 cr210 cr211 cr212 lr21 cr230 cr231 cr232 lr23 cr250 cr251 cr252 lr25
  have cr40 := (r4u11.out 0 _ rfl).1
  have cr41 := (r4u11.out 1 _ rfl).1
  have lr4 := cell_lt cr40
  have cr70 := (r7u11.out 0 _ rfl).1
  have cr71 := (r7u11.out 1 _ rfl).1
  have cr72 := (r7u11.out 2 _ rfl).1
  have cr73 := (r7u11.out 3 _ rfl).1
  have cr74 := (r7u11.out 4 _ rfl).1
  have lr7 := cell_lt cr70
  have cr190 := (r19u11.out 0 _ rfl).1
  have cr191 := (r19u11.out 1 _ rfl).1
  have cr192 := (r19u11.out 2 _ rfl).1
  have lr19 := cell_lt cr190
  have cr210 := (r21u11.out 0 _ rfl).1
  have cr211 := (r21u11.out 1 _ rfl).1
  have cr212 := (r21u11.out 2 _ rfl).1
  have lr21 := cell_lt cr210
  have cr230 := (r23u11.out 0 _ rfl).1
  have cr231 := (r23u11.out 1 _ rfl).1
  have cr232 := (r23u11.out 2 _ rfl).1
  have lr23 := cell_lt cr230
  have cr250 := (r25u11.out 0 _ rfl).1
  have cr251 := (r25u11.out 1 _ rfl).1
  have cr252 := (r25u11.out 2 _ rfl).1
  have lr25 := cell_lt cr250
  go_wp2_with fail
  obtain ⟨V12, hV12⟩ : ∃ V12, V12 = u11 := ⟨_, rfl⟩
  rw [← hV12]
  have kV12 : Kept u11 V12 := by rw [hV12]; exact Kept.refl _
  have r4V12 := Lib.hid (r4u11.out.kept kV12)
  clear r4u11
  have r7V12 := Lib.hid (r7u11.out.kept kV12)
  clear r7u11
  have r19V12 := Lib.hid (r19u11.out.kept kV12)
  clear r19u11
  have r21V12 := Lib.hid (r21u11.out.kept kV12)
  clear r21u11
  have r23V12 := Lib.hid (r23u11.out.kept kV12)
  clear r23u11
  have r25V12 := Lib.hid (r25u11.out.kept kV12)
  clear r25u11
  have kwV12 := Lib.hid (kwu11.out.trans kV12)
  clear hV12 kV12
  clear cr40 cr41 lr4 cr70 cr71 cr72 cr73 cr74 lr7 cr190 cr191 cr192 lr19 cr210 cr211 cr212 lr21 cr230 cr231 cr232 lr23 cr250 cr251 cr252 lr25
  have cr40 := (r4V12.out 0 _ rfl).1
  have cr41 := (r4V12.out 1 _ rfl).1
  have lr4 := cell_lt cr40
  have cr70 := (r7V12.out 0 _ rfl).1
  have cr71 := (r7V12.out 1 _ rfl).1
  have cr72 := (r7V12.out 2 _ rfl).1
  have cr73 := (r7V12.out 3 _ rfl).1
  have cr74 := (r7V12.out 4 _ rfl).1
  have lr7 := cell_lt cr70
  have cr190 := (r19V12.out 0 _ rfl).1
  have cr191 := (r19V12.out 1 _ rfl).1
  have cr192 := (r19V12.out 2 _ rfl).1
  have lr19 := cell_lt cr190
  have cr210 := (r21V12.out 0 _ rfl).1
  have cr211 := (r21V12.out 1 _ rfl).1
  have cr212 := (r21V12.out 2 _ rfl).1
  have lr21 := cell_lt cr210
  have cr230 := (r23V12.out 0 _ rfl).1
  have cr231 := (r23V12.out 1 _ rfl).1
  have cr232 := (r23V12.out 2 _ rfl).1
  have lr23 := cell_lt cr230
  have cr250 := (r25V12.out 0 _ rfl).1
  have cr251 := (r25V12.out 1 _ rfl).1
  have cr252 := (r25V12.out 2 _ rfl).1
  have lr25 := cell_lt cr250
  refine (counted_any _).mono ?_
  rintro e u12 ⟨rfl, hk12⟩
  have r4u12 := Lib.hid (r4V12.out.kept hk12)
  clear r4V12
  have r7u12 := Lib.hid (r7V12.out.kept hk12)
  clear r7V12
  have r19u12 := Lib.hid (r19V12.out.kept hk12)
  clear r19V12
  have r21u12 := Lib.hid (r21V12.out.kept hk12)
  clear r21V12
  have r23u12 := Lib.hid (r23V12.out.kept hk12)
  clear r23V12
  have r25u12 := Lib.hid (r25V12.out.kept hk12)
  clear r25V12
  have kwu12 := Lib.hid (kwV12.out.trans hk12)
  clear hk12
  clear cr40 cr41 lr4 cr70 cr71 cr72 cr73 cr74 lr7 cr190 cr191 cr192 lr19 cr210 cr211 cr212 lr21 cr230 cr231 cr232 lr23 cr250 cr251 cr252 lr25
  have cr40 := (r4u12.out 0 _ rfl).1
  have cr41 := (r4u12.out 1 _ rfl).1
  have lr4 := cell_lt cr40
  have cr70 := (r7u12.out 0 _ rfl).1
  have cr71 := (r7u12.out 1 _ rfl).1
  have cr72 := (r7u12.out 2 _ rfl).1
  have cr73 := (r7u12.out 3 _ rfl).1
  have cr74 := (r7u12.out 4 _ rfl).1
  have lr7 := cell_lt cr70
  have cr190 := (r19u12.out 0 _ rfl).1
  have cr191 := (r19u12.out 1 _ rfl).1
  have cr192 := (r19u12.out 2 _ rfl).1
  have lr19 := cell_lt cr190
  have cr210 := (r21u12.out 0 _ rfl).1
  have cr211 := (r21u12.out 1 _ rfl).1
  have cr212 := (r21u12.out 2 _ rfl).1
  have lr21 := cell_lt cr210
  have cr230 := (r23u12.out 0 _ rfl).1
  have cr231 := (r23u12.out 1 _ rfl).1
  have cr232 := (r23u12.out 2 _ rfl).1
  have lr23 := cell_lt cr230
  have cr250 := (r25u12.out 0 _ rfl).1
  have cr251 := (r25u12.out 1 _ rfl).1
  have cr252 := (r25u12.out 2 _ rfl).1
  have lr25 := cell_lt cr250
  cases t3 <;> cases o3
  all_goals
    go_wp2
    go_ret
    exact ⟨rfl, kwu12.out⟩
end Go.Proofs.Ytjaicilnlgjdcaa
