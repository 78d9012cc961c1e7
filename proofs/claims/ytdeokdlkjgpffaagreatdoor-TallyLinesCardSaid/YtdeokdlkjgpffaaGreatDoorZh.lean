/- TallyLines -/
import Derived.Test.YtdeokdlkjgpffaaGreatDoorZg
import Derived.Test.YtdeokdlkjgpffaaGreatDoorXj
namespace Go.Proofs.YtdeokdlkjgpffaaGreatDoor
set_option linter.all false
open Go.RowKit Go.Shelf

set_option maxRecDepth 100000 in
set_option maxHeartbeats 8000000 in
theorem lines_any (x : Ct) (y : Rcn) (s t : ByteArray) (w : World) (hE : Env w) :
    Calls Tryz.prog 3 #[ctV x, rcV y, .string s, .string t] w fun e w' => e = .returned (.bool true) ∧ Kept w w' := by
  obtain ⟨W0, hW0⟩ : ∃ W0, W0 = (w.alloc (.cells #[.int .i64 x.id, .int .i64 x.dy, .int .i64 x.sh, .int .i64 x.nu, .int .i64 x.wo] 23)).alloc (.cells #[.int .i64 y.id, .int .i64 y.dy, .int .i64 y.kn, .int .i64 y.sh, .int .i64 y.tr, .int .i64 y.nu] 25) := ⟨_, rfl⟩
  have K0 : RowKit.Hid (Kept w W0) := Lib.hid (by rw [hW0]; exact ((Kept.refl _).alloc _).alloc _)
  have RX : RowKit.Hid (RowC W0 w.heap.size (ctCells x)) := Lib.hid (by rw [hW0]; exact (RowC.new w (ctCells x) 23).kept ((Kept.refl _).alloc _))
  have RY : RowKit.Hid (RowC W0 (w.heap.size + 1) (rcCells y)) := Lib.hid (by rw [hW0]; have h := RowC.new (w.alloc (.cells #[.int .i64 x.id, .int .i64 x.dy, .int .i64 x.sh, .int .i64 x.nu, .int .i64 x.wo] 23)) (rcCells y) 25; rwa [show (w.alloc (.cells #[.int .i64 x.id, .int .i64 x.dy, .int .i64 x.sh, .int .i64 x.nu, .int .i64 x.wo] 23)).heap.size = w.heap.size + 1 by simp] at h)
  have HW := Lib.hid hW0
  have HE := Lib.hid (hE.kept K0.out)
  clear hW0 hE
  by_cases h1 : 200 < s.size
  · unfold ctV rcV
    go_enter Tryz.func3, Tryz.ntmps3
    go_upto_region 1 with (fail)
    rw [← HW.out]
    go_wp2_with fail
    refine (counted_any _).mono ?_
    rintro e w1 ⟨rfl, hk⟩
    go_wp2
    go_ret
    exact ⟨rfl, K0.out.trans hk⟩
  by_cases h2 : 200 < t.size
  · unfold ctV rcV
    go_enter Tryz.func3, Tryz.ntmps3
    go_upto_region 1 with (fail)
    rw [← HW.out]
    go_wp2_with fail
    refine (counted_any _).mono ?_
    rintro e w1 ⟨rfl, hk⟩
    go_wp2
    go_ret
    exact ⟨rfl, K0.out.trans hk⟩
  have hda : decide ((200 : Int) < (s.size : Int)) = false := decide_eq_false (by omega)
  have hdb : decide ((200 : Int) < (t.size : Int)) = false := decide_eq_false (by omega)
  obtain ⟨cx, hcx⟩ : ∃ cx, cx = errI (ctB x) := ⟨_, rfl⟩
  obtain ⟨cy, hcy⟩ : ∃ cy, cy = errI (rcB y) := ⟨_, rfl⟩
  obtain ⟨lx, hlx⟩ : ∃ lx, lx = ctLine x := ⟨_, rfl⟩
  obtain ⟨ly, hly⟩ : ∃ ly, ly = rcLine y := ⟨_, rfl⟩
  obtain ⟨⟨p, ip⟩, hp⟩ : ∃ r, r = readC s := ⟨_, rfl⟩
  obtain ⟨⟨q, iq⟩, hq⟩ : ∃ r, r = readR t := ⟨_, rfl⟩
  have H6 : RowKit.Hid (∀ W, Kept W0 W → Calls Tryz.prog 6 #[.agg #[.int .i64 x.id, .int .i64 x.dy, .int .i64 x.sh, .int .i64 x.nu, .int .i64 x.wo]] W fun e w' => e = .returned (.tuple #[.string lx, .int .i64 cx]) ∧ Kept W w') := Lib.hid (fun W hW => by rw [hcx, hlx]; exact write_any x W (HE.out.kept hW))
  have H7 : RowKit.Hid (∀ W, Calls Tryz.prog 7 #[.agg #[.int .i64 x.id, .int .i64 x.dy, .int .i64 x.sh, .int .i64 x.nu, .int .i64 x.wo]] W fun e w' => e = .returned (.tuple #[.string lx, .int .i64 cx]) ∧ Kept W w') := Lib.hid (fun W => by rw [hcx, hlx]; exact rwrite_any x W)
  have H10 : RowKit.Hid (∀ W, Kept W0 W → Calls Tryz.prog 10 #[.agg #[.int .i64 y.id, .int .i64 y.dy, .int .i64 y.kn, .int .i64 y.sh, .int .i64 y.tr, .int .i64 y.nu]] W fun e w' => e = .returned (.tuple #[.string ly, .int .i64 cy]) ∧ Kept W w') := Lib.hid (fun W hW => by rw [hcy, hly]; exact writeRecount_any y W (HE.out.kept hW))
  have H11 : RowKit.Hid (∀ W, Calls Tryz.prog 11 #[.agg #[.int .i64 y.id, .int .i64 y.dy, .int .i64 y.kn, .int .i64 y.sh, .int .i64 y.tr, .int .i64 y.nu]] W fun e w' => e = .returned (.tuple #[.string ly, .int .i64 cy]) ∧ Kept W w') := Lib.hid (fun W => by rw [hcy, hly]; exact rwriteRecount_any y W)
  have H8 : RowKit.Hid (∀ W, Kept W0 W → Calls Tryz.prog 8 #[.string s] W fun e w' => e = .returned (.tuple #[.agg #[.int .i64 p.id, .int .i64 p.dy, .int .i64 p.sh, .int .i64 p.nu, .int .i64 p.wo], .int .i64 ip]) ∧ Kept W w') := Lib.hid (fun W hW => by
    have := read_any s (by omega) W (HE.out.kept hW)
    rw [← hp] at this
    exact this)
  have H9 : RowKit.Hid (∀ W, Calls Tryz.prog 9 #[.string s] W fun e w' => e = .returned (.tuple #[.agg #[.int .i64 p.id, .int .i64 p.dy, .int .i64 p.sh, .int .i64 p.nu, .int .i64 p.wo], .int .i64 ip]) ∧ Kept W w') := Lib.hid (fun W => by
    have := rread_eq s (by omega) W
    rw [← hp] at this
    exact this)
  have H12 : RowKit.Hid (∀ W, Kept W0 W → Calls Tryz.prog 12 #[.string t] W fun e w' => e = .returned (.tuple #[.agg #[.int .i64 q.id, .int .i64 q.dy, .int .i64 q.kn, .int .i64 q.sh, .int .i64 q.tr, .int .i64 q.nu], .int .i64 iq]) ∧ Kept W w') := Lib.hid (fun W hW => by
    have := readRecount_any t (by omega) W (HE.out.kept hW)
    rw [← hq] at this
    exact this)
  have H13 : RowKit.Hid (∀ W, Calls Tryz.prog 13 #[.string t] W fun e w' => e = .returned (.tuple #[.agg #[.int .i64 q.id, .int .i64 q.dy, .int .i64 q.kn, .int .i64 q.sh, .int .i64 q.tr, .int .i64 q.nu], .int .i64 iq]) ∧ Kept W w') := Lib.hid (fun W => by
    have := rreadRecount_eq t (by omega) W
    rw [← hq] at this
    exact this)
  have hlxx : (lx.toList == lx.toList) = true := by simp
  have hlyy : (ly.toList == ly.toList) = true := by simp
  clear hcx hcy hlx hly hp hq
  have a0 := (RX.out 0 _ rfl).1
  have a1 := (RX.out 1 _ rfl).1
  have a2 := (RX.out 2 _ rfl).1
  have a3 := (RX.out 3 _ rfl).1
  have a4 := (RX.out 4 _ rfl).1
  have la := cell_lt a0
  unfold ctV rcV
  go_enter Tryz.func3, Tryz.ntmps3
  go_upto_region 1 with (fail)
  rw [← HW.out]
  go_wp2_with fail
  refine (H6.out _ (Kept.refl _)).mono ?_
  rintro e w1 ⟨rfl, hk1⟩
  have K1 := Lib.hid hk1
  have RX1 := RX.out.kept hk1
  clear a0 a1 a2 a3 a4
  clear hk1 la
  have a0 := (RX1 0 _ rfl).1
  have a1 := (RX1 1 _ rfl).1
  have a2 := (RX1 2 _ rfl).1
  have a3 := (RX1 3 _ rfl).1
  have a4 := (RX1 4 _ rfl).1
  have la := cell_lt a0
  clear RX1
  go_wp2_with fail
  refine (H7.out _).mono ?_
  rintro e w2 ⟨rfl, hk2⟩
  have K2 := Lib.hid (K1.out.trans hk2)
  clear a0 a1 a2 a3 a4
  clear hk2 la
  go_wp2_with fail
  refine (H8.out _ K2.out).mono ?_
  rintro e w3 ⟨rfl, hk3⟩
  obtain ⟨W4, hW4⟩ : ∃ W, W = w3.alloc (.cells #[.int .i64 p.id, .int .i64 p.dy, .int .i64 p.sh, .int .i64 p.nu, .int .i64 p.wo] 23) := ⟨_, rfl⟩
  have RP : RowKit.Hid (RowC W4 w3.heap.size [.int .i64 p.id, .int .i64 p.dy, .int .i64 p.sh, .int .i64 p.nu, .int .i64 p.wo]) := Lib.hid (by rw [hW4]; exact RowC.new w3 [.int .i64 p.id, .int .i64 p.dy, .int .i64 p.sh, .int .i64 p.nu, .int .i64 p.wo] 23)
  have K4 : RowKit.Hid (Kept W0 W4) := Lib.hid ((K2.out.trans hk3).trans (show Kept w3 W4 by rw [hW4]; exact (Kept.refl _).alloc _))
  have HW4 := Lib.hid hW4
  clear hW4
  clear hk3
  go_upto_region 6 with (fail)
  rw [← HW4.out]
  go_wp2_with fail
  refine (H9.out _).mono ?_
  rintro e w5 ⟨rfl, hk5⟩
  have RP5 := Lib.hid (RP.out.kept hk5)
  obtain ⟨W6, hW6⟩ : ∃ W, W = w5.alloc (.cells #[.int .i64 p.id, .int .i64 p.dy, .int .i64 p.sh, .int .i64 p.nu, .int .i64 p.wo] 23) := ⟨_, rfl⟩
  have RS : RowKit.Hid (RowC W6 w5.heap.size [.int .i64 p.id, .int .i64 p.dy, .int .i64 p.sh, .int .i64 p.nu, .int .i64 p.wo]) := Lib.hid (by rw [hW6]; exact RowC.new w5 [.int .i64 p.id, .int .i64 p.dy, .int .i64 p.sh, .int .i64 p.nu, .int .i64 p.wo] 23)
  have K6 : RowKit.Hid (Kept W0 W6) := Lib.hid ((K4.out.trans hk5).trans (show Kept w5 W6 by rw [hW6]; exact (Kept.refl _).alloc _))
  have HW6 := Lib.hid hW6
  clear hW6
  have RP6 := RP5.out.kept (show Kept w5 W6 by rw [HW6.out]; exact (Kept.refl _).alloc _)
  have RY6 := RY.out.kept K6.out
  clear hk5
  go_upto_region 7 with (fail)
  rw [← HW6.out]
  have b0 := (RP6 0 _ rfl).1
  have b1 := (RP6 1 _ rfl).1
  have b2 := (RP6 2 _ rfl).1
  have b3 := (RP6 3 _ rfl).1
  have b4 := (RP6 4 _ rfl).1
  have c0 := (RS.out 0 _ rfl).1
  have c1 := (RS.out 1 _ rfl).1
  have c2 := (RS.out 2 _ rfl).1
  have c3 := (RS.out 3 _ rfl).1
  have c4 := (RS.out 4 _ rfl).1
  have d0 := (RY6 0 _ rfl).1
  have d1 := (RY6 1 _ rfl).1
  have d2 := (RY6 2 _ rfl).1
  have d3 := (RY6 3 _ rfl).1
  have d4 := (RY6 4 _ rfl).1
  have d5 := (RY6 5 _ rfl).1
  have lb := cell_lt b0
  have lc := cell_lt c0
  have ld := cell_lt d0
  clear RP6 RY6
  go_wp2_with fail
  refine (H10.out _ K6.out).mono ?_
  rintro e w7 ⟨rfl, hk7⟩
  have K7 := Lib.hid (K6.out.trans hk7)
  have RY7 := RY.out.kept K7.out
  clear b0 b1 b2 b3 b4 c0 c1 c2 c3 c4 d0 d1 d2 d3 d4 d5
  clear lb lc ld hk7
  have d0 := (RY7 0 _ rfl).1
  have d1 := (RY7 1 _ rfl).1
  have d2 := (RY7 2 _ rfl).1
  have d3 := (RY7 3 _ rfl).1
  have d4 := (RY7 4 _ rfl).1
  have d5 := (RY7 5 _ rfl).1
  have ld := cell_lt d0
  clear RY7
  go_wp2_with fail
  refine (H11.out _).mono ?_
  rintro e w8 ⟨rfl, hk8⟩
  have K8 := Lib.hid (K7.out.trans hk8)
  clear d0 d1 d2 d3 d4 d5
  clear ld hk8
  go_wp2_with fail
  refine (H12.out _ K8.out).mono ?_
  rintro e w9 ⟨rfl, hk9⟩
  obtain ⟨W10, hW10⟩ : ∃ W, W = w9.alloc (.cells #[.int .i64 q.id, .int .i64 q.dy, .int .i64 q.kn, .int .i64 q.sh, .int .i64 q.tr, .int .i64 q.nu] 25) := ⟨_, rfl⟩
  have RQ : RowKit.Hid (RowC W10 w9.heap.size [.int .i64 q.id, .int .i64 q.dy, .int .i64 q.kn, .int .i64 q.sh, .int .i64 q.tr, .int .i64 q.nu]) := Lib.hid (by rw [hW10]; exact RowC.new w9 [.int .i64 q.id, .int .i64 q.dy, .int .i64 q.kn, .int .i64 q.sh, .int .i64 q.tr, .int .i64 q.nu] 25)
  have K10 : RowKit.Hid (Kept W0 W10) := Lib.hid ((K8.out.trans hk9).trans (show Kept w9 W10 by rw [hW10]; exact (Kept.refl _).alloc _))
  have HW10 := Lib.hid hW10
  clear hW10
  clear hk9
  go_upto_region 12 with (fail)
  rw [← HW10.out]
  go_wp2_with fail
  refine (H13.out _).mono ?_
  rintro e w11 ⟨rfl, hk11⟩
  have RQ11 := Lib.hid (RQ.out.kept hk11)
  obtain ⟨W12, hW12⟩ : ∃ W, W = w11.alloc (.cells #[.int .i64 q.id, .int .i64 q.dy, .int .i64 q.kn, .int .i64 q.sh, .int .i64 q.tr, .int .i64 q.nu] 25) := ⟨_, rfl⟩
  have RT : RowKit.Hid (RowC W12 w11.heap.size [.int .i64 q.id, .int .i64 q.dy, .int .i64 q.kn, .int .i64 q.sh, .int .i64 q.tr, .int .i64 q.nu]) := Lib.hid (by rw [hW12]; exact RowC.new w11 [.int .i64 q.id, .int .i64 q.dy, .int .i64 q.kn, .int .i64 q.sh, .int .i64 q.tr, .int .i64 q.nu] 25)
  have K12 : RowKit.Hid (Kept W0 W12) := Lib.hid ((K10.out.trans hk11).trans (show Kept w11 W12 by rw [hW12]; exact (Kept.refl _).alloc _))
  have HW12 := Lib.hid hW12
  clear hW12
  have RQ12 := Lib.hid (RQ11.out.kept (show Kept w11 W12 by rw [HW12.out]; exact (Kept.refl _).alloc _))
  clear hk11
  go_upto_region 13 with (fail)
  rw [← HW12.out]
  go_wp2_with fail
  refine (counted_any _).mono ?_
  rintro e w13 ⟨rfl, hk13⟩
  have K13 := Lib.hid (K12.out.trans hk13)
  have RQ13 := RQ12.out.kept hk13
  have RT13 := RT.out.kept hk13
  clear hk13
  have b0 := (RQ13 0 _ rfl).1
  have b1 := (RQ13 1 _ rfl).1
  have b2 := (RQ13 2 _ rfl).1
  have b3 := (RQ13 3 _ rfl).1
  have b4 := (RQ13 4 _ rfl).1
  have b5 := (RQ13 5 _ rfl).1
  have c0 := (RT13 0 _ rfl).1
  have c1 := (RT13 1 _ rfl).1
  have c2 := (RT13 2 _ rfl).1
  have c3 := (RT13 3 _ rfl).1
  have c4 := (RT13 4 _ rfl).1
  have c5 := (RT13 5 _ rfl).1
  have lb := cell_lt b0
  have lc := cell_lt c0
  clear RQ13 RT13
  go_wp2
  go_ret
  exact ⟨by simp, K0.out.trans K13.out⟩
end Go.Proofs.YtdeokdlkjgpffaaGreatDoor
