/- TallyTexts -/
import Derived.Test.YtdeokdlkjgpffaaGreatDoorXi
import Derived.Test.YtdeokdlkjgpffaaGreatDoorXg
namespace Go.Proofs.YtdeokdlkjgpffaaGreatDoor
set_option linter.all false
open Go.RowKit Go.Shelf

set_option maxRecDepth 100000 in
set_option maxHeartbeats 8000000 in
theorem texts_any (x : Ct) (y : Rcn) (s t : ByteArray) (w : World) (hE : Env w) :
    Calls Tryz.prog 4 #[ctV x, rcV y, .string s, .string t] w fun e w' => e = .returned (.bool true) ∧ Kept w w' := by
  obtain ⟨W0, hW0⟩ : ∃ W0, W0 = (w.alloc (.cells #[.int .i64 x.id, .int .i64 x.dy, .int .i64 x.sh, .int .i64 x.nu, .int .i64 x.wo] 23)).alloc (.cells #[.int .i64 y.id, .int .i64 y.dy, .int .i64 y.kn, .int .i64 y.sh, .int .i64 y.tr, .int .i64 y.nu] 25) := ⟨_, rfl⟩
  have K0 : RowKit.Hid (Kept w W0) := Lib.hid (by rw [hW0]; exact ((Kept.refl _).alloc _).alloc _)
  have RX : RowKit.Hid (RowC W0 w.heap.size (ctCells x)) := Lib.hid (by rw [hW0]; exact (RowC.new w (ctCells x) 23).kept ((Kept.refl _).alloc _))
  have RY : RowKit.Hid (RowC W0 (w.heap.size + 1) (rcCells y)) := Lib.hid (by rw [hW0]; have h := RowC.new (w.alloc (.cells #[.int .i64 x.id, .int .i64 x.dy, .int .i64 x.sh, .int .i64 x.nu, .int .i64 x.wo] 23)) (rcCells y) 25; rwa [show (w.alloc (.cells #[.int .i64 x.id, .int .i64 x.dy, .int .i64 x.sh, .int .i64 x.nu, .int .i64 x.wo] 23)).heap.size = w.heap.size + 1 by simp] at h)
  have HW := Lib.hid hW0
  have HE := Lib.hid (hE.kept K0.out)
  clear hW0 hE
  by_cases h1 : 200 < s.size
  · unfold ctV rcV
    go_enter Tryz.func4, Tryz.ntmps4
    go_upto_region 1 with (fail)
    rw [← HW.out]
    go_wp2_with fail
    refine (counted_any _).mono ?_
    rintro e w1 ⟨rfl, hk⟩
    go_wp2
    go_ret
    exact ⟨rfl, K0.out.trans hk⟩
  by_cases h2 : 200 < t.size
  · unfold ctV rcV
    go_enter Tryz.func4, Tryz.ntmps4
    go_upto_region 1 with (fail)
    rw [← HW.out]
    go_wp2_with fail
    refine (counted_any _).mono ?_
    rintro e w1 ⟨rfl, hk⟩
    go_wp2
    go_ret
    exact ⟨rfl, K0.out.trans hk⟩
  have hda : decide ((200 : Int) < (s.size : Int)) = false := decide_eq_false (by omega)
  have hdb : decide ((200 : Int) < (t.size : Int)) = false := decide_eq_false (by omega)
  obtain ⟨cx, hcx⟩ : ∃ cx, cx = ctB x := ⟨_, rfl⟩
  obtain ⟨cy, hcy⟩ : ∃ cy, cy = rcB y := ⟨_, rfl⟩
  obtain ⟨lx, hlx⟩ : ∃ lx, lx = ctLine x := ⟨_, rfl⟩
  obtain ⟨ly, hly⟩ : ∃ ly, ly = rcLine y := ⟨_, rfl⟩
  obtain ⟨⟨p, ip⟩, hp⟩ : ∃ r, r = readC s := ⟨_, rfl⟩
  obtain ⟨⟨q, iq⟩, hq⟩ : ∃ r, r = readR t := ⟨_, rfl⟩
  have H6 : RowKit.Hid (∀ W, Kept W0 W → Calls Tryz.prog 6 #[.agg #[.int .i64 x.id, .int .i64 x.dy, .int .i64 x.sh, .int .i64 x.nu, .int .i64 x.wo]] W fun e w' => e = .returned (.tuple #[.string lx, .int .i64 (errI cx)]) ∧ Kept W w') := Lib.hid (fun W hW => by rw [hcx, hlx]; exact write_any x W (HE.out.kept hW))
  have H8 : RowKit.Hid (cx = true → ∀ W, Kept W0 W → Calls Tryz.prog 8 #[.string lx] W fun e w' => e = .returned (.tuple #[.agg #[.int .i64 x.id, .int .i64 x.dy, .int .i64 x.sh, .int .i64 x.nu, .int .i64 x.wo], .int .i64 0]) ∧ Kept W w') := Lib.hid (fun h W hW => by
    have := read_any (ctLine x) (ctLine_size x) W (HE.out.kept hW)
    rw [read_written (hcx ▸ h)] at this
    rw [hlx]; exact this)
  have H10 : RowKit.Hid (∀ W, Kept W0 W → Calls Tryz.prog 10 #[.agg #[.int .i64 y.id, .int .i64 y.dy, .int .i64 y.kn, .int .i64 y.sh, .int .i64 y.tr, .int .i64 y.nu]] W fun e w' => e = .returned (.tuple #[.string ly, .int .i64 (errI cy)]) ∧ Kept W w') := Lib.hid (fun W hW => by rw [hcy, hly]; exact writeRecount_any y W (HE.out.kept hW))
  have H12 : RowKit.Hid (cy = true → ∀ W, Kept W0 W → Calls Tryz.prog 12 #[.string ly] W fun e w' => e = .returned (.tuple #[.agg #[.int .i64 y.id, .int .i64 y.dy, .int .i64 y.kn, .int .i64 y.sh, .int .i64 y.tr, .int .i64 y.nu], .int .i64 0]) ∧ Kept W w') := Lib.hid (fun h W hW => by
    have := readRecount_any (rcLine y) (rcLine_size y) W (HE.out.kept hW)
    rw [readR_written (hcy ▸ h)] at this
    rw [hly]; exact this)
  have H8s : RowKit.Hid (∀ W, Kept W0 W → Calls Tryz.prog 8 #[.string s] W fun e w' => e = .returned (.tuple #[.agg #[.int .i64 p.id, .int .i64 p.dy, .int .i64 p.sh, .int .i64 p.nu, .int .i64 p.wo], .int .i64 ip]) ∧ Kept W w') := Lib.hid (fun W hW => by
    have := read_any s (by omega) W (HE.out.kept hW)
    rw [← hp] at this
    exact this)
  have H12t : RowKit.Hid (∀ W, Kept W0 W → Calls Tryz.prog 12 #[.string t] W fun e w' => e = .returned (.tuple #[.agg #[.int .i64 q.id, .int .i64 q.dy, .int .i64 q.kn, .int .i64 q.sh, .int .i64 q.tr, .int .i64 q.nu], .int .i64 iq]) ∧ Kept W w') := Lib.hid (fun W hW => by
    have := readRecount_any t (by omega) W (HE.out.kept hW)
    rw [← hq] at this
    exact this)
  have H6p : RowKit.Hid (ip = 0 → ∀ W, Kept W0 W → Calls Tryz.prog 6 #[.agg #[.int .i64 p.id, .int .i64 p.dy, .int .i64 p.sh, .int .i64 p.nu, .int .i64 p.wo]] W fun e w' => e = .returned (.tuple #[.string s, .int .i64 0]) ∧ Kept W w') := Lib.hid (fun h W hW => by
    have h9 := written_read (s := s) (by rw [← hp]; exact h)
    rw [← hp] at h9
    have := write_any p W (HE.out.kept hW)
    rw [h9.1, h9.2] at this
    exact this)
  have H10q : RowKit.Hid (iq = 0 → ∀ W, Kept W0 W → Calls Tryz.prog 10 #[.agg #[.int .i64 q.id, .int .i64 q.dy, .int .i64 q.kn, .int .i64 q.sh, .int .i64 q.tr, .int .i64 q.nu]] W fun e w' => e = .returned (.tuple #[.string t, .int .i64 0]) ∧ Kept W w') := Lib.hid (fun h W hW => by
    have h9 := written_readR (s := t) (by rw [← hq]; exact h)
    rw [← hq] at h9
    have := writeRecount_any q W (HE.out.kept hW)
    rw [h9.1, h9.2] at this
    exact this)
  have H14 : RowKit.Hid (∀ W, Calls Tryz.prog 14 #[.agg #[.int .i64 x.id, .int .i64 x.dy, .int .i64 x.sh, .int .i64 x.nu, .int .i64 x.wo]] W fun e w' => e = .returned (.int .i64 (errI cx)) ∧ Kept W w') := Lib.hid (fun W => by rw [hcx]; exact checkCount_any _ _ _ _ _ W)
  have hip : ip = 0 ∨ ip = 4 := by have := readC_err s; rw [← hp] at this; exact this
  have hiq : iq = 0 ∨ iq = 4 := by have := readR_err t; rw [← hq] at this; exact this
  have hss : (s.toList != s.toList) = false := by simp
  have htt : (t.toList != t.toList) = false := by simp
  clear hcx hcy hlx hly hp hq
  have a0 := (RX.out 0 _ rfl).1
  have a1 := (RX.out 1 _ rfl).1
  have a2 := (RX.out 2 _ rfl).1
  have a3 := (RX.out 3 _ rfl).1
  have a4 := (RX.out 4 _ rfl).1
  have la := cell_lt a0
  unfold ctV rcV
  go_enter Tryz.func4, Tryz.ntmps4
  go_upto_region 1 with (fail)
  rw [← HW.out]
  go_wp2_with fail
  refine (H6.out _ (Kept.refl _)).mono ?_
  rintro e w1 ⟨rfl, hk1⟩
  have K1 := Lib.hid hk1
  clear hk1 a0 a1 a2 a3 a4 la
  -- the tally's own line
  cases cx
  rotate_left
  · have H8t := Lib.hid (H8.out (Eq.refl true))
    go_wp2_with fail
    refine (H8t.out _ K1.out).mono ?_
    rintro e w2 ⟨rfl, hk2⟩
    obtain ⟨W3, hW3⟩ : ∃ W3, W3 = w2.alloc (.cells #[.int .i64 x.id, .int .i64 x.dy, .int .i64 x.sh, .int .i64 x.nu, .int .i64 x.wo] 23) := ⟨_, rfl⟩
    have K3 := Lib.hid ((K1.out.trans hk2).trans (show Kept w2 W3 by rw [hW3]; exact (Kept.refl _).alloc _))
    have r3 : RowC W3 w2.heap.size (ctCells x) := by rw [hW3]; exact RowC.new w2 (ctCells x) 23
    have rx3 := RX.out.kept K3.out
    have HW3 := Lib.hid hW3
    have b0 := (r3 0 _ rfl).1
    have b1 := (r3 1 _ rfl).1
    have b2 := (r3 2 _ rfl).1
    have b3 := (r3 3 _ rfl).1
    have b4 := (r3 4 _ rfl).1
    have a0 := (rx3 0 _ rfl).1
    have a1 := (rx3 1 _ rfl).1
    have a2 := (rx3 2 _ rfl).1
    have a3 := (rx3 3 _ rfl).1
    have a4 := (rx3 4 _ rfl).1
    have la := cell_lt a0
    have lb := cell_lt b0
    clear hW3 hk2 r3 rx3
    go_upto_region 6 with (fail)
    rw [← HW3.out]
    have ry3 := RY.out.kept K3.out
    have c0 := (ry3 0 _ rfl).1
    have c1 := (ry3 1 _ rfl).1
    have c2 := (ry3 2 _ rfl).1
    have c3 := (ry3 3 _ rfl).1
    have c4 := (ry3 4 _ rfl).1
    have c5 := (ry3 5 _ rfl).1
    have lc := cell_lt c0
    clear ry3
    go_wp2_with fail
    refine (H10.out _ K3.out).mono ?_
    rintro e w4 ⟨rfl, hk4⟩
    have K4 := Lib.hid (K3.out.trans hk4)
    clear hk4 a0 a1 a2 a3 a4 la b0 b1 b2 b3 b4 lb c0 c1 c2 c3 c4 c5 lc
    cases cy
    rotate_left
    · have H12y := Lib.hid (H12.out (Eq.refl true))
      go_wp2_with fail
      refine (H12y.out _ K4.out).mono ?_
      rintro e w5 ⟨rfl, hk5⟩
      obtain ⟨W6, hW6⟩ : ∃ W6, W6 = w5.alloc (.cells #[.int .i64 y.id, .int .i64 y.dy, .int .i64 y.kn, .int .i64 y.sh, .int .i64 y.tr, .int .i64 y.nu] 25) := ⟨_, rfl⟩
      have K6 := Lib.hid ((K4.out.trans hk5).trans (show Kept w5 W6 by rw [hW6]; exact (Kept.refl _).alloc _))
      have r6 : RowC W6 w5.heap.size (rcCells y) := by rw [hW6]; exact RowC.new w5 (rcCells y) 25
      have ry6 := RY.out.kept K6.out
      have HW6 := Lib.hid hW6
      have b0 := (r6 0 _ rfl).1
      have b1 := (r6 1 _ rfl).1
      have b2 := (r6 2 _ rfl).1
      have b3 := (r6 3 _ rfl).1
      have b4 := (r6 4 _ rfl).1
      have b5 := (r6 5 _ rfl).1
      have c0 := (ry6 0 _ rfl).1
      have c1 := (ry6 1 _ rfl).1
      have c2 := (ry6 2 _ rfl).1
      have c3 := (ry6 3 _ rfl).1
      have c4 := (ry6 4 _ rfl).1
      have c5 := (ry6 5 _ rfl).1
      have lb := cell_lt b0
      have lc := cell_lt c0
      clear hW6 hk5 r6 ry6
      go_upto_region 11 with (fail)
      rw [← HW6.out]
      go_wp2_with fail
      refine (H8s.out _ K6.out).mono ?_
      rintro e w7 ⟨rfl, hk7⟩
      have K7 := Lib.hid (K6.out.trans hk7)
      clear hk7 b0 c0 b1 c1 b2 c2 b3 c3 b4 c4 b5 c5 lb lc
      go_wp2_with fail
      refine (H12t.out _ (K7.out.alloc _)).mono ?_
      rintro e w9 ⟨rfl, hk9⟩
      obtain ⟨W10, hW10⟩ : ∃ W10, W10 = w9.alloc (.cells #[.int .i64 q.id, .int .i64 q.dy, .int .i64 q.kn, .int .i64 q.sh, .int .i64 q.tr, .int .i64 q.nu] 25) := ⟨_, rfl⟩
      have k10 : Kept w9 W10 := by rw [hW10]; exact (Kept.refl _).alloc _
      have RP := Lib.hid (((RowC.new w7 (ctCells p) 23).kept hk9).kept k10)
      have RQ : RowKit.Hid (RowC W10 w9.heap.size (rcCells q)) := Lib.hid (by rw [hW10]; exact RowC.new w9 (rcCells q) 25)
      have K10 := Lib.hid (((K7.out.alloc _).trans hk9).trans k10)
      have HW10 := Lib.hid hW10
      clear hW10 k10 hk9
      go_upto_region 15 with (fail)
      rw [← HW10.out]
      rcases hip with rfl | rfl
      · have H6r := Lib.hid (H6p.out (Eq.refl (0 : Int)))
        have rpz := RP.out
        have b0 := (rpz 0 _ rfl).1
        have b1 := (rpz 1 _ rfl).1
        have b2 := (rpz 2 _ rfl).1
        have b3 := (rpz 3 _ rfl).1
        have b4 := (rpz 4 _ rfl).1
        have lb := cell_lt b0
        clear rpz
        go_wp2_with fail
        refine (H6r.out _ K10.out).mono ?_
        rintro e w11 ⟨rfl, hk11⟩
        have KY := Lib.hid (K10.out.trans hk11)
        have KQ := Lib.hid hk11
        clear hk11 b0 b1 b2 b3 b4 lb
        rcases hiq with rfl | rfl
        · have H10r := Lib.hid (H10q.out (Eq.refl (0 : Int)))
          have rqz := RQ.out.kept KQ.out
          have d0 := (rqz 0 _ rfl).1
          have d1 := (rqz 1 _ rfl).1
          have d2 := (rqz 2 _ rfl).1
          have d3 := (rqz 3 _ rfl).1
          have d4 := (rqz 4 _ rfl).1
          have d5 := (rqz 5 _ rfl).1
          have ld := cell_lt d0
          clear rqz
          go_wp2_with fail
          refine (H10r.out _ KY.out).mono ?_
          rintro e w13 ⟨rfl, hk13⟩
          have KZ := Lib.hid (KY.out.trans hk13)
          clear hk13 d0 d1 d2 d3 d4 d5 ld
          go_wp2_with fail
          refine (counted_any _).mono ?_
          rintro e w15 ⟨rfl, hk15⟩
          have rx15 := RX.out.kept (KZ.out.trans hk15)
          have a0 := (rx15 0 _ rfl).1
          have a1 := (rx15 1 _ rfl).1
          have a2 := (rx15 2 _ rfl).1
          have a3 := (rx15 3 _ rfl).1
          have a4 := (rx15 4 _ rfl).1
          have la := cell_lt a0
          clear rx15
          go_wp2_with fail
          refine (H14.out _).mono ?_
          rintro e w16 ⟨rfl, hk16⟩
          go_wp2
          go_ret
          exact ⟨by simp, K0.out.trans ((KZ.out.trans hk15).trans hk16)⟩
        · have KZ := Lib.hid KY.out
          go_wp2_with fail
          refine (counted_any _).mono ?_
          rintro e w15 ⟨rfl, hk15⟩
          have rx15 := RX.out.kept (KZ.out.trans hk15)
          have a0 := (rx15 0 _ rfl).1
          have a1 := (rx15 1 _ rfl).1
          have a2 := (rx15 2 _ rfl).1
          have a3 := (rx15 3 _ rfl).1
          have a4 := (rx15 4 _ rfl).1
          have la := cell_lt a0
          clear rx15
          go_wp2_with fail
          refine (H14.out _).mono ?_
          rintro e w16 ⟨rfl, hk16⟩
          go_wp2
          go_ret
          exact ⟨by simp, K0.out.trans ((KZ.out.trans hk15).trans hk16)⟩
      · have KY := Lib.hid K10.out
        have KQ := Lib.hid (Kept.refl W10)
        rcases hiq with rfl | rfl
        · have H10r := Lib.hid (H10q.out (Eq.refl (0 : Int)))
          have rqz := RQ.out.kept KQ.out
          have d0 := (rqz 0 _ rfl).1
          have d1 := (rqz 1 _ rfl).1
          have d2 := (rqz 2 _ rfl).1
          have d3 := (rqz 3 _ rfl).1
          have d4 := (rqz 4 _ rfl).1
          have d5 := (rqz 5 _ rfl).1
          have ld := cell_lt d0
          clear rqz
          go_wp2_with fail
          refine (H10r.out _ KY.out).mono ?_
          rintro e w13 ⟨rfl, hk13⟩
          have KZ := Lib.hid (KY.out.trans hk13)
          clear hk13 d0 d1 d2 d3 d4 d5 ld
          go_wp2_with fail
          refine (counted_any _).mono ?_
          rintro e w15 ⟨rfl, hk15⟩
          have rx15 := RX.out.kept (KZ.out.trans hk15)
          have a0 := (rx15 0 _ rfl).1
          have a1 := (rx15 1 _ rfl).1
          have a2 := (rx15 2 _ rfl).1
          have a3 := (rx15 3 _ rfl).1
          have a4 := (rx15 4 _ rfl).1
          have la := cell_lt a0
          clear rx15
          go_wp2_with fail
          refine (H14.out _).mono ?_
          rintro e w16 ⟨rfl, hk16⟩
          go_wp2
          go_ret
          exact ⟨by simp, K0.out.trans ((KZ.out.trans hk15).trans hk16)⟩
        · have KZ := Lib.hid KY.out
          go_wp2_with fail
          refine (counted_any _).mono ?_
          rintro e w15 ⟨rfl, hk15⟩
          have rx15 := RX.out.kept (KZ.out.trans hk15)
          have a0 := (rx15 0 _ rfl).1
          have a1 := (rx15 1 _ rfl).1
          have a2 := (rx15 2 _ rfl).1
          have a3 := (rx15 3 _ rfl).1
          have a4 := (rx15 4 _ rfl).1
          have la := cell_lt a0
          clear rx15
          go_wp2_with fail
          refine (H14.out _).mono ?_
          rintro e w16 ⟨rfl, hk16⟩
          go_wp2
          go_ret
          exact ⟨by simp, K0.out.trans ((KZ.out.trans hk15).trans hk16)⟩
    · go_wp2_with fail
      refine (H8s.out _ K4.out).mono ?_
      rintro e w7 ⟨rfl, hk7⟩
      have K7 := Lib.hid (K4.out.trans hk7)
      clear hk7
      go_wp2_with fail
      refine (H12t.out _ (K7.out.alloc _)).mono ?_
      rintro e w9 ⟨rfl, hk9⟩
      obtain ⟨W10, hW10⟩ : ∃ W10, W10 = w9.alloc (.cells #[.int .i64 q.id, .int .i64 q.dy, .int .i64 q.kn, .int .i64 q.sh, .int .i64 q.tr, .int .i64 q.nu] 25) := ⟨_, rfl⟩
      have k10 : Kept w9 W10 := by rw [hW10]; exact (Kept.refl _).alloc _
      have RP := Lib.hid (((RowC.new w7 (ctCells p) 23).kept hk9).kept k10)
      have RQ : RowKit.Hid (RowC W10 w9.heap.size (rcCells q)) := Lib.hid (by rw [hW10]; exact RowC.new w9 (rcCells q) 25)
      have K10 := Lib.hid (((K7.out.alloc _).trans hk9).trans k10)
      have HW10 := Lib.hid hW10
      clear hW10 k10 hk9
      go_upto_region 15 with (fail)
      rw [← HW10.out]
      rcases hip with rfl | rfl
      · have H6r := Lib.hid (H6p.out (Eq.refl (0 : Int)))
        have rpz := RP.out
        have b0 := (rpz 0 _ rfl).1
        have b1 := (rpz 1 _ rfl).1
        have b2 := (rpz 2 _ rfl).1
        have b3 := (rpz 3 _ rfl).1
        have b4 := (rpz 4 _ rfl).1
        have lb := cell_lt b0
        clear rpz
        go_wp2_with fail
        refine (H6r.out _ K10.out).mono ?_
        rintro e w11 ⟨rfl, hk11⟩
        have KY := Lib.hid (K10.out.trans hk11)
        have KQ := Lib.hid hk11
        clear hk11 b0 b1 b2 b3 b4 lb
        rcases hiq with rfl | rfl
        · have H10r := Lib.hid (H10q.out (Eq.refl (0 : Int)))
          have rqz := RQ.out.kept KQ.out
          have d0 := (rqz 0 _ rfl).1
          have d1 := (rqz 1 _ rfl).1
          have d2 := (rqz 2 _ rfl).1
          have d3 := (rqz 3 _ rfl).1
          have d4 := (rqz 4 _ rfl).1
          have d5 := (rqz 5 _ rfl).1
          have ld := cell_lt d0
          clear rqz
          go_wp2_with fail
          refine (H10r.out _ KY.out).mono ?_
          rintro e w13 ⟨rfl, hk13⟩
          have KZ := Lib.hid (KY.out.trans hk13)
          clear hk13 d0 d1 d2 d3 d4 d5 ld
          go_wp2_with fail
          refine (counted_any _).mono ?_
          rintro e w15 ⟨rfl, hk15⟩
          have rx15 := RX.out.kept (KZ.out.trans hk15)
          have a0 := (rx15 0 _ rfl).1
          have a1 := (rx15 1 _ rfl).1
          have a2 := (rx15 2 _ rfl).1
          have a3 := (rx15 3 _ rfl).1
          have a4 := (rx15 4 _ rfl).1
          have la := cell_lt a0
          clear rx15
          go_wp2_with fail
          refine (H14.out _).mono ?_
          rintro e w16 ⟨rfl, hk16⟩
          go_wp2
          go_ret
          exact ⟨by simp, K0.out.trans ((KZ.out.trans hk15).trans hk16)⟩
        · have KZ := Lib.hid KY.out
          go_wp2_with fail
          refine (counted_any _).mono ?_
          rintro e w15 ⟨rfl, hk15⟩
          have rx15 := RX.out.kept (KZ.out.trans hk15)
          have a0 := (rx15 0 _ rfl).1
          have a1 := (rx15 1 _ rfl).1
          have a2 := (rx15 2 _ rfl).1
          have a3 := (rx15 3 _ rfl).1
          have a4 := (rx15 4 _ rfl).1
          have la := cell_lt a0
          clear rx15
          go_wp2_with fail
          refine (H14.out _).mono ?_
          rintro e w16 ⟨rfl, hk16⟩
          go_wp2
          go_ret
          exact ⟨by simp, K0.out.trans ((KZ.out.trans hk15).trans hk16)⟩
      · have KY := Lib.hid K10.out
        have KQ := Lib.hid (Kept.refl W10)
        rcases hiq with rfl | rfl
        · have H10r := Lib.hid (H10q.out (Eq.refl (0 : Int)))
          have rqz := RQ.out.kept KQ.out
          have d0 := (rqz 0 _ rfl).1
          have d1 := (rqz 1 _ rfl).1
          have d2 := (rqz 2 _ rfl).1
          have d3 := (rqz 3 _ rfl).1
          have d4 := (rqz 4 _ rfl).1
          have d5 := (rqz 5 _ rfl).1
          have ld := cell_lt d0
          clear rqz
          go_wp2_with fail
          refine (H10r.out _ KY.out).mono ?_
          rintro e w13 ⟨rfl, hk13⟩
          have KZ := Lib.hid (KY.out.trans hk13)
          clear hk13 d0 d1 d2 d3 d4 d5 ld
          go_wp2_with fail
          refine (counted_any _).mono ?_
          rintro e w15 ⟨rfl, hk15⟩
          have rx15 := RX.out.kept (KZ.out.trans hk15)
          have a0 := (rx15 0 _ rfl).1
          have a1 := (rx15 1 _ rfl).1
          have a2 := (rx15 2 _ rfl).1
          have a3 := (rx15 3 _ rfl).1
          have a4 := (rx15 4 _ rfl).1
          have la := cell_lt a0
          clear rx15
          go_wp2_with fail
          refine (H14.out _).mono ?_
          rintro e w16 ⟨rfl, hk16⟩
          go_wp2
          go_ret
          exact ⟨by simp, K0.out.trans ((KZ.out.trans hk15).trans hk16)⟩
        · have KZ := Lib.hid KY.out
          go_wp2_with fail
          refine (counted_any _).mono ?_
          rintro e w15 ⟨rfl, hk15⟩
          have rx15 := RX.out.kept (KZ.out.trans hk15)
          have a0 := (rx15 0 _ rfl).1
          have a1 := (rx15 1 _ rfl).1
          have a2 := (rx15 2 _ rfl).1
          have a3 := (rx15 3 _ rfl).1
          have a4 := (rx15 4 _ rfl).1
          have la := cell_lt a0
          clear rx15
          go_wp2_with fail
          refine (H14.out _).mono ?_
          rintro e w16 ⟨rfl, hk16⟩
          go_wp2
          go_ret
          exact ⟨by simp, K0.out.trans ((KZ.out.trans hk15).trans hk16)⟩
  · have ry3 := RY.out.kept K1.out
    have c0 := (ry3 0 _ rfl).1
    have c1 := (ry3 1 _ rfl).1
    have c2 := (ry3 2 _ rfl).1
    have c3 := (ry3 3 _ rfl).1
    have c4 := (ry3 4 _ rfl).1
    have c5 := (ry3 5 _ rfl).1
    have lc := cell_lt c0
    clear ry3
    go_wp2_with fail
    refine (H10.out _ K1.out).mono ?_
    rintro e w4 ⟨rfl, hk4⟩
    have K4 := Lib.hid (K1.out.trans hk4)
    clear hk4 c0 c1 c2 c3 c4 c5 lc
    cases cy
    rotate_left
    · have H12y := Lib.hid (H12.out (Eq.refl true))
      go_wp2_with fail
      refine (H12y.out _ K4.out).mono ?_
      rintro e w5 ⟨rfl, hk5⟩
      obtain ⟨W6, hW6⟩ : ∃ W6, W6 = w5.alloc (.cells #[.int .i64 y.id, .int .i64 y.dy, .int .i64 y.kn, .int .i64 y.sh, .int .i64 y.tr, .int .i64 y.nu] 25) := ⟨_, rfl⟩
      have K6 := Lib.hid ((K4.out.trans hk5).trans (show Kept w5 W6 by rw [hW6]; exact (Kept.refl _).alloc _))
      have r6 : RowC W6 w5.heap.size (rcCells y) := by rw [hW6]; exact RowC.new w5 (rcCells y) 25
      have ry6 := RY.out.kept K6.out
      have HW6 := Lib.hid hW6
      have b0 := (r6 0 _ rfl).1
      have b1 := (r6 1 _ rfl).1
      have b2 := (r6 2 _ rfl).1
      have b3 := (r6 3 _ rfl).1
      have b4 := (r6 4 _ rfl).1
      have b5 := (r6 5 _ rfl).1
      have c0 := (ry6 0 _ rfl).1
      have c1 := (ry6 1 _ rfl).1
      have c2 := (ry6 2 _ rfl).1
      have c3 := (ry6 3 _ rfl).1
      have c4 := (ry6 4 _ rfl).1
      have c5 := (ry6 5 _ rfl).1
      have lb := cell_lt b0
      have lc := cell_lt c0
      clear hW6 hk5 r6 ry6
      go_upto_region 11 with (fail)
      rw [← HW6.out]
      go_wp2_with fail
      refine (H8s.out _ K6.out).mono ?_
      rintro e w7 ⟨rfl, hk7⟩
      have K7 := Lib.hid (K6.out.trans hk7)
      clear hk7 b0 c0 b1 c1 b2 c2 b3 c3 b4 c4 b5 c5 lb lc
      go_wp2_with fail
      refine (H12t.out _ (K7.out.alloc _)).mono ?_
      rintro e w9 ⟨rfl, hk9⟩
      obtain ⟨W10, hW10⟩ : ∃ W10, W10 = w9.alloc (.cells #[.int .i64 q.id, .int .i64 q.dy, .int .i64 q.kn, .int .i64 q.sh, .int .i64 q.tr, .int .i64 q.nu] 25) := ⟨_, rfl⟩
      have k10 : Kept w9 W10 := by rw [hW10]; exact (Kept.refl _).alloc _
      have RP := Lib.hid (((RowC.new w7 (ctCells p) 23).kept hk9).kept k10)
      have RQ : RowKit.Hid (RowC W10 w9.heap.size (rcCells q)) := Lib.hid (by rw [hW10]; exact RowC.new w9 (rcCells q) 25)
      have K10 := Lib.hid (((K7.out.alloc _).trans hk9).trans k10)
      have HW10 := Lib.hid hW10
      clear hW10 k10 hk9
      go_upto_region 15 with (fail)
      rw [← HW10.out]
      rcases hip with rfl | rfl
      · have H6r := Lib.hid (H6p.out (Eq.refl (0 : Int)))
        have rpz := RP.out
        have b0 := (rpz 0 _ rfl).1
        have b1 := (rpz 1 _ rfl).1
        have b2 := (rpz 2 _ rfl).1
        have b3 := (rpz 3 _ rfl).1
        have b4 := (rpz 4 _ rfl).1
        have lb := cell_lt b0
        clear rpz
        go_wp2_with fail
        refine (H6r.out _ K10.out).mono ?_
        rintro e w11 ⟨rfl, hk11⟩
        have KY := Lib.hid (K10.out.trans hk11)
        have KQ := Lib.hid hk11
        clear hk11 b0 b1 b2 b3 b4 lb
        rcases hiq with rfl | rfl
        · have H10r := Lib.hid (H10q.out (Eq.refl (0 : Int)))
          have rqz := RQ.out.kept KQ.out
          have d0 := (rqz 0 _ rfl).1
          have d1 := (rqz 1 _ rfl).1
          have d2 := (rqz 2 _ rfl).1
          have d3 := (rqz 3 _ rfl).1
          have d4 := (rqz 4 _ rfl).1
          have d5 := (rqz 5 _ rfl).1
          have ld := cell_lt d0
          clear rqz
          go_wp2_with fail
          refine (H10r.out _ KY.out).mono ?_
          rintro e w13 ⟨rfl, hk13⟩
          have KZ := Lib.hid (KY.out.trans hk13)
          clear hk13 d0 d1 d2 d3 d4 d5 ld
          go_wp2_with fail
          refine (counted_any _).mono ?_
          rintro e w15 ⟨rfl, hk15⟩
          have rx15 := RX.out.kept (KZ.out.trans hk15)
          have a0 := (rx15 0 _ rfl).1
          have a1 := (rx15 1 _ rfl).1
          have a2 := (rx15 2 _ rfl).1
          have a3 := (rx15 3 _ rfl).1
          have a4 := (rx15 4 _ rfl).1
          have la := cell_lt a0
          clear rx15
          go_wp2_with fail
          refine (H14.out _).mono ?_
          rintro e w16 ⟨rfl, hk16⟩
          go_wp2
          go_ret
          exact ⟨by simp, K0.out.trans ((KZ.out.trans hk15).trans hk16)⟩
        · have KZ := Lib.hid KY.out
          go_wp2_with fail
          refine (counted_any _).mono ?_
          rintro e w15 ⟨rfl, hk15⟩
          have rx15 := RX.out.kept (KZ.out.trans hk15)
          have a0 := (rx15 0 _ rfl).1
          have a1 := (rx15 1 _ rfl).1
          have a2 := (rx15 2 _ rfl).1
          have a3 := (rx15 3 _ rfl).1
          have a4 := (rx15 4 _ rfl).1
          have la := cell_lt a0
          clear rx15
          go_wp2_with fail
          refine (H14.out _).mono ?_
          rintro e w16 ⟨rfl, hk16⟩
          go_wp2
          go_ret
          exact ⟨by simp, K0.out.trans ((KZ.out.trans hk15).trans hk16)⟩
      · have KY := Lib.hid K10.out
        have KQ := Lib.hid (Kept.refl W10)
        rcases hiq with rfl | rfl
        · have H10r := Lib.hid (H10q.out (Eq.refl (0 : Int)))
          have rqz := RQ.out.kept KQ.out
          have d0 := (rqz 0 _ rfl).1
          have d1 := (rqz 1 _ rfl).1
          have d2 := (rqz 2 _ rfl).1
          have d3 := (rqz 3 _ rfl).1
          have d4 := (rqz 4 _ rfl).1
          have d5 := (rqz 5 _ rfl).1
          have ld := cell_lt d0
          clear rqz
          go_wp2_with fail
          refine (H10r.out _ KY.out).mono ?_
          rintro e w13 ⟨rfl, hk13⟩
          have KZ := Lib.hid (KY.out.trans hk13)
          clear hk13 d0 d1 d2 d3 d4 d5 ld
          go_wp2_with fail
          refine (counted_any _).mono ?_
          rintro e w15 ⟨rfl, hk15⟩
          have rx15 := RX.out.kept (KZ.out.trans hk15)
          have a0 := (rx15 0 _ rfl).1
          have a1 := (rx15 1 _ rfl).1
          have a2 := (rx15 2 _ rfl).1
          have a3 := (rx15 3 _ rfl).1
          have a4 := (rx15 4 _ rfl).1
          have la := cell_lt a0
          clear rx15
          go_wp2_with fail
          refine (H14.out _).mono ?_
          rintro e w16 ⟨rfl, hk16⟩
          go_wp2
          go_ret
          exact ⟨by simp, K0.out.trans ((KZ.out.trans hk15).trans hk16)⟩
        · have KZ := Lib.hid KY.out
          go_wp2_with fail
          refine (counted_any _).mono ?_
          rintro e w15 ⟨rfl, hk15⟩
          have rx15 := RX.out.kept (KZ.out.trans hk15)
          have a0 := (rx15 0 _ rfl).1
          have a1 := (rx15 1 _ rfl).1
          have a2 := (rx15 2 _ rfl).1
          have a3 := (rx15 3 _ rfl).1
          have a4 := (rx15 4 _ rfl).1
          have la := cell_lt a0
          clear rx15
          go_wp2_with fail
          refine (H14.out _).mono ?_
          rintro e w16 ⟨rfl, hk16⟩
          go_wp2
          go_ret
          exact ⟨by simp, K0.out.trans ((KZ.out.trans hk15).trans hk16)⟩
    · go_wp2_with fail
      refine (H8s.out _ K4.out).mono ?_
      rintro e w7 ⟨rfl, hk7⟩
      have K7 := Lib.hid (K4.out.trans hk7)
      clear hk7
      go_wp2_with fail
      refine (H12t.out _ (K7.out.alloc _)).mono ?_
      rintro e w9 ⟨rfl, hk9⟩
      obtain ⟨W10, hW10⟩ : ∃ W10, W10 = w9.alloc (.cells #[.int .i64 q.id, .int .i64 q.dy, .int .i64 q.kn, .int .i64 q.sh, .int .i64 q.tr, .int .i64 q.nu] 25) := ⟨_, rfl⟩
      have k10 : Kept w9 W10 := by rw [hW10]; exact (Kept.refl _).alloc _
      have RP := Lib.hid (((RowC.new w7 (ctCells p) 23).kept hk9).kept k10)
      have RQ : RowKit.Hid (RowC W10 w9.heap.size (rcCells q)) := Lib.hid (by rw [hW10]; exact RowC.new w9 (rcCells q) 25)
      have K10 := Lib.hid (((K7.out.alloc _).trans hk9).trans k10)
      have HW10 := Lib.hid hW10
      clear hW10 k10 hk9
      go_upto_region 15 with (fail)
      rw [← HW10.out]
      rcases hip with rfl | rfl
      · have H6r := Lib.hid (H6p.out (Eq.refl (0 : Int)))
        have rpz := RP.out
        have b0 := (rpz 0 _ rfl).1
        have b1 := (rpz 1 _ rfl).1
        have b2 := (rpz 2 _ rfl).1
        have b3 := (rpz 3 _ rfl).1
        have b4 := (rpz 4 _ rfl).1
        have lb := cell_lt b0
        clear rpz
        go_wp2_with fail
        refine (H6r.out _ K10.out).mono ?_
        rintro e w11 ⟨rfl, hk11⟩
        have KY := Lib.hid (K10.out.trans hk11)
        have KQ := Lib.hid hk11
        clear hk11 b0 b1 b2 b3 b4 lb
        rcases hiq with rfl | rfl
        · have H10r := Lib.hid (H10q.out (Eq.refl (0 : Int)))
          have rqz := RQ.out.kept KQ.out
          have d0 := (rqz 0 _ rfl).1
          have d1 := (rqz 1 _ rfl).1
          have d2 := (rqz 2 _ rfl).1
          have d3 := (rqz 3 _ rfl).1
          have d4 := (rqz 4 _ rfl).1
          have d5 := (rqz 5 _ rfl).1
          have ld := cell_lt d0
          clear rqz
          go_wp2_with fail
          refine (H10r.out _ KY.out).mono ?_
          rintro e w13 ⟨rfl, hk13⟩
          have KZ := Lib.hid (KY.out.trans hk13)
          clear hk13 d0 d1 d2 d3 d4 d5 ld
          go_wp2_with fail
          refine (counted_any _).mono ?_
          rintro e w15 ⟨rfl, hk15⟩
          have rx15 := RX.out.kept (KZ.out.trans hk15)
          have a0 := (rx15 0 _ rfl).1
          have a1 := (rx15 1 _ rfl).1
          have a2 := (rx15 2 _ rfl).1
          have a3 := (rx15 3 _ rfl).1
          have a4 := (rx15 4 _ rfl).1
          have la := cell_lt a0
          clear rx15
          go_wp2_with fail
          refine (H14.out _).mono ?_
          rintro e w16 ⟨rfl, hk16⟩
          go_wp2
          go_ret
          exact ⟨by simp, K0.out.trans ((KZ.out.trans hk15).trans hk16)⟩
        · have KZ := Lib.hid KY.out
          go_wp2_with fail
          refine (counted_any _).mono ?_
          rintro e w15 ⟨rfl, hk15⟩
          have rx15 := RX.out.kept (KZ.out.trans hk15)
          have a0 := (rx15 0 _ rfl).1
          have a1 := (rx15 1 _ rfl).1
          have a2 := (rx15 2 _ rfl).1
          have a3 := (rx15 3 _ rfl).1
          have a4 := (rx15 4 _ rfl).1
          have la := cell_lt a0
          clear rx15
          go_wp2_with fail
          refine (H14.out _).mono ?_
          rintro e w16 ⟨rfl, hk16⟩
          go_wp2
          go_ret
          exact ⟨by simp, K0.out.trans ((KZ.out.trans hk15).trans hk16)⟩
      · have KY := Lib.hid K10.out
        have KQ := Lib.hid (Kept.refl W10)
        rcases hiq with rfl | rfl
        · have H10r := Lib.hid (H10q.out (Eq.refl (0 : Int)))
          have rqz := RQ.out.kept KQ.out
          have d0 := (rqz 0 _ rfl).1
          have d1 := (rqz 1 _ rfl).1
          have d2 := (rqz 2 _ rfl).1
          have d3 := (rqz 3 _ rfl).1
          have d4 := (rqz 4 _ rfl).1
          have d5 := (rqz 5 _ rfl).1
          have ld := cell_lt d0
          clear rqz
          go_wp2_with fail
          refine (H10r.out _ KY.out).mono ?_
          rintro e w13 ⟨rfl, hk13⟩
          have KZ := Lib.hid (KY.out.trans hk13)
          clear hk13 d0 d1 d2 d3 d4 d5 ld
          go_wp2_with fail
          refine (counted_any _).mono ?_
          rintro e w15 ⟨rfl, hk15⟩
          have rx15 := RX.out.kept (KZ.out.trans hk15)
          have a0 := (rx15 0 _ rfl).1
          have a1 := (rx15 1 _ rfl).1
          have a2 := (rx15 2 _ rfl).1
          have a3 := (rx15 3 _ rfl).1
          have a4 := (rx15 4 _ rfl).1
          have la := cell_lt a0
          clear rx15
          go_wp2_with fail
          refine (H14.out _).mono ?_
          rintro e w16 ⟨rfl, hk16⟩
          go_wp2
          go_ret
          exact ⟨by simp, K0.out.trans ((KZ.out.trans hk15).trans hk16)⟩
        · have KZ := Lib.hid KY.out
          go_wp2_with fail
          refine (counted_any _).mono ?_
          rintro e w15 ⟨rfl, hk15⟩
          have rx15 := RX.out.kept (KZ.out.trans hk15)
          have a0 := (rx15 0 _ rfl).1
          have a1 := (rx15 1 _ rfl).1
          have a2 := (rx15 2 _ rfl).1
          have a3 := (rx15 3 _ rfl).1
          have a4 := (rx15 4 _ rfl).1
          have la := cell_lt a0
          clear rx15
          go_wp2_with fail
          refine (H14.out _).mono ?_
          rintro e w16 ⟨rfl, hk16⟩
          go_wp2
          go_ret
          exact ⟨by simp, K0.out.trans ((KZ.out.trans hk15).trans hk16)⟩
end Go.Proofs.YtdeokdlkjgpffaaGreatDoor
