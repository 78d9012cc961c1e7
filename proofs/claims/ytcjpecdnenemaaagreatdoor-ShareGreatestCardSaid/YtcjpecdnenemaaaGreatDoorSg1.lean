/-
  The law ShareGreatest.
-/
import Derived.Test.YtcjpecdnenemaaaGreatDoorSg0
import Derived.Test.YtcjpecdnenemaaaGreatDoorUs3
namespace Go.Proofs.YtcjpecdnenemaaaGreatDoor
set_option linter.all false
open Go.RowKit Go.Shelf

set_option maxRecDepth 100000 in
set_option maxHeartbeats 3200000 in
theorem great15_any (A : Option Addr) (n c : Nat) (xs : List Eqv) (fr tt : ByteArray) (sn sd m day known : Int) (w : World) (hT : TabA w A n c xs) (hE : Env w) :
    Calls Tryz.prog 15 #[.slice A n c, .string fr, .string tt, .agg #[.int .i64 sn, .int .i64 sd], .int .i64 m, .int .i64 day, .int .i64 known] w fun e w' => e = .returned (.bool true) ∧ Kept w w' := by
  have hnc := hT.2.1
  have hcm := hT.2.2.1
  obtain ⟨W0, hW0⟩ : ∃ W0, W0 = w.alloc (.cells #[.int .i64 sn, .int .i64 sd] 23) := ⟨_, rfl⟩
  have K0 : RowKit.Hid (Kept w W0) := Lib.hid (by rw [hW0]; exact (Kept.refl _).alloc _)
  have R0 : RowKit.Hid (RowC W0 w.heap.size [.int .i64 sn, .int .i64 sd]) := Lib.hid (by rw [hW0]; exact RowC.new w _ 23)
  have HW0 := Lib.hid hW0
  have HT := Lib.hid (hT.kept K0.out)
  have HE := Lib.hid (hE.kept K0.out)
  clear hT hE hW0
  obtain ⟨fb, hfb⟩ : ∃ fb, fb = fewB n := ⟨_, rfl⟩
  have HFB := Lib.hid hfb
  have HF : RowKit.Hid (∀ W, Calls Tryz.prog 47 #[.slice A n c] W fun e w' => e = .returned (.bool fb) ∧ W = w') := Lib.hid (fun W => by rw [hfb]; exact few_any A n c (by omega) W)
  clear hfb
  cases fb
  · go_enter Tryz.func15, Tryz.ntmps15
    go_upto_region 1 with (fail)
    rw [← HW0.out]
    go_wp2_with fail
    refine (HF.out _).mono ?_
    rintro e w1 ⟨rfl, rfl⟩
    go_wp2_with fail
    refine (alive_any _ HE.out).mono ?_
    rintro e w2 ⟨rfl, hk2⟩
    go_wp2
    go_ret
    exact ⟨rfl, K0.out.trans hk2⟩
  have hlt : n ≤ 1000000 := by have := few_le HFB.out.symm; omega
  by_cases l1 : fr.size ≤ 100
  case neg =>
    have d1 : (100 : Int) < (fr.size : Int) := by omega
    go_enter Tryz.func15, Tryz.ntmps15
    go_upto_region 1 with (fail)
    rw [← HW0.out]
    go_wp2_with fail
    refine (HF.out _).mono ?_
    rintro e w1 ⟨rfl, rfl⟩
    go_wp2_with fail
    refine (alive_any _ HE.out).mono ?_
    rintro e w2 ⟨rfl, hk2⟩
    go_wp2
    go_ret
    exact ⟨rfl, K0.out.trans hk2⟩
  by_cases l2 : tt.size ≤ 100
  case neg =>
    have d1 : ¬ (100 : Int) < (fr.size : Int) := by omega
    have d2 : (100 : Int) < (tt.size : Int) := by omega
    go_enter Tryz.func15, Tryz.ntmps15
    go_upto_region 1 with (fail)
    rw [← HW0.out]
    go_wp2_with fail
    refine (HF.out _).mono ?_
    rintro e w1 ⟨rfl, rfl⟩
    go_wp2_with fail
    refine (alive_any _ HE.out).mono ?_
    rintro e w2 ⟨rfl, hk2⟩
    go_wp2
    go_ret
    exact ⟨rfl, K0.out.trans hk2⟩
  have d1 : ¬ (100 : Int) < (fr.size : Int) := by omega
  have d2 : ¬ (100 : Int) < (tt.size : Int) := by omega
  have HFR := Lib.hid (show fr.size ≤ 9223372036854775807 by omega)
  obtain ⟨⟨k, z⟩, hk⟩ : ∃ r, mostS xs fr sn sd day known = r := ⟨_, rfl⟩
  obtain ⟨k0, k1⟩ := most_bad hk
  obtain ⟨k2, hk2⟩ : ∃ k2, min (k + 1) 100000 = k2 := ⟨_, rfl⟩
  have k3 : 0 ≤ k2 := by omega
  have k4 : k2 ≤ 100000 := by omega
  obtain ⟨⟨x0, x1, x2⟩, hx⟩ : ∃ r, excS xs [⟨fr, k⟩] 0 1 day known = r := ⟨_, rfl⟩
  obtain ⟨⟨y0, y1, y2⟩, hy⟩ : ∃ r, excS xs [⟨fr, k2⟩] 0 1 day known = r := ⟨_, rfl⟩
  obtain ⟨⟨q, h⟩, hq⟩ : ∃ r, exS xs fr tt m day known = r := ⟨_, rfl⟩
  obtain ⟨⟨b, i⟩, hb⟩ : ∃ r, exS xs tt fr q day known = r := ⟨_, rfl⟩
  obtain ⟨⟨s, j⟩, hs⟩ : ∃ r, exS xs fr fr m day known = r := ⟨_, rfl⟩
  obtain ⟨cx, hcx⟩ : ∃ r, cmpS x0 x1 sn sd = r := ⟨_, rfl⟩
  obtain ⟨cy, hcy⟩ : ∃ r, cmpS y0 y1 sn sd = r := ⟨_, rfl⟩
  have X1 := Lib.hid (show z = 0 → x2 = 0 → 0 ≤ sn → cx ≤ 0 from fun e1 e2 e3 => by subst e1; subst e2; rw [← hcx]; exact great_fits hk hx e3)
  have X2 := Lib.hid (show z = 0 → y2 = 0 → k < 100000 → 0 < cy from fun e1 e2 e3 => by
    subst e1; subst e2; rw [← hcy]
    rw [show k2 = k + 1 by omega] at hy
    exact great_more hk hy e3)
  have X3 := Lib.hid (show h ≠ 0 → q = 0 from fun e1 => ex_bad hq e1)
  have X4 := Lib.hid (show h = 0 → i = 0 ∧ j = 0 ∧ b ≤ m ∧ s = m from fun e1 => by
    subst e1
    obtain ⟨b', e2, e3⟩ := great_back hq
    rw [hb] at e2
    have e4 := great_same hq
    rw [hs] at e4
    simp only [Prod.mk.injEq] at e2 e4
    exact ⟨e2.2, e4.2, by rw [e2.1]; exact e3, e4.1⟩)
  have C66 : RowKit.Hid (∀ W, Kept W0 W → Calls Tryz.prog 66 #[.slice A n c, .string fr, .agg #[.int .i64 sn, .int .i64 sd], .int .i64 day, .int .i64 known] W fun e w' => e = .returned (.tuple #[.int .i64 k, .int .i64 z]) ∧ Kept W w') := Lib.hid (fun W hW => by
    have := most_any A n c xs fr sn sd day known W (HT.out.kept hW) hlt
    rw [hk] at this
    exact this)
  have CA : RowKit.Hid (∀ W, Kept W0 W → Calls Tryz.prog 59 #[.slice A n c, .slice (some ⟨W.heap.size, 0, none⟩) 1 1, .int .i64 day, .int .i64 known] (W.alloc (.cells #[.string fr, .int .i64 k] 84)) fun e w' => e = .returned (.tuple #[.agg #[.int .i64 x0, .int .i64 x1], .int .i64 x2]) ∧ Kept (W.alloc (.cells #[.string fr, .int .i64 k] 84)) w') := Lib.hid (fun W hW => by
    have := uses_any A n c xs (some ⟨W.heap.size, 0, none⟩) 1 1 [⟨fr, k⟩] day known (W.alloc (.cells #[.string fr, .int .i64 k] 84)) (HT.out.kept (hW.alloc _)) hlt (heads_one W ⟨fr, k⟩ _ rfl HFR.out (by dsimp only; omega) (by dsimp only; omega))
    rw [hx] at this
    exact this)
  have CB : RowKit.Hid (∀ W, Kept W0 W → Calls Tryz.prog 59 #[.slice A n c, .slice (some ⟨W.heap.size, 0, none⟩) 1 1, .int .i64 day, .int .i64 known] (W.alloc (.cells #[.string fr, .int .i64 k2] 84)) fun e w' => e = .returned (.tuple #[.agg #[.int .i64 y0, .int .i64 y1], .int .i64 y2]) ∧ Kept (W.alloc (.cells #[.string fr, .int .i64 k2] 84)) w') := Lib.hid (fun W hW => by
    have := uses_any A n c xs (some ⟨W.heap.size, 0, none⟩) 1 1 [⟨fr, k2⟩] day known (W.alloc (.cells #[.string fr, .int .i64 k2] 84)) (HT.out.kept (hW.alloc _)) hlt (heads_one W ⟨fr, k2⟩ _ rfl HFR.out (by dsimp only; omega) (by dsimp only; omega))
    rw [hy] at this
    exact this)
  have C1 : RowKit.Hid (∀ W, Kept W0 W → Calls Tryz.prog 68 #[.slice A n c, .string fr, .string tt, .int .i64 m, .int .i64 day, .int .i64 known] W fun e w' => e = .returned (.tuple #[.int .i64 q, .int .i64 h]) ∧ Kept W w') := Lib.hid (fun W hW => by
    have := exchange_all A n c xs fr tt m day known W (HT.out.kept hW) hlt
    rw [hq] at this
    exact this)
  have C2 : RowKit.Hid (∀ W, Kept W0 W → Calls Tryz.prog 68 #[.slice A n c, .string tt, .string fr, .int .i64 q, .int .i64 day, .int .i64 known] W fun e w' => e = .returned (.tuple #[.int .i64 b, .int .i64 i]) ∧ Kept W w') := Lib.hid (fun W hW => by
    have := exchange_all A n c xs tt fr q day known W (HT.out.kept hW) hlt
    rw [hb] at this
    exact this)
  have C3 : RowKit.Hid (∀ W, Kept W0 W → Calls Tryz.prog 68 #[.slice A n c, .string fr, .string fr, .int .i64 m, .int .i64 day, .int .i64 known] W fun e w' => e = .returned (.tuple #[.int .i64 s, .int .i64 j]) ∧ Kept W w') := Lib.hid (fun W hW => by
    have := exchange_all A n c xs fr fr m day known W (HT.out.kept hW) hlt
    rw [hs] at this
    exact this)
  have CX : RowKit.Hid (∀ W, Calls Tryz.prog 21 #[.agg #[.int .i64 x0, .int .i64 x1], .agg #[.int .i64 sn, .int .i64 sd]] W fun e w' => e = .returned (.int .i64 cx) ∧ Kept W w') := Lib.hid (fun W => by
    have := compare_any x0 x1 sn sd W
    rw [hcx] at this
    exact this)
  have CY : RowKit.Hid (∀ W, Calls Tryz.prog 21 #[.agg #[.int .i64 y0, .int .i64 y1], .agg #[.int .i64 sn, .int .i64 sd]] W fun e w' => e = .returned (.int .i64 cy) ∧ Kept W w') := Lib.hid (fun W => by
    have := compare_any y0 y1 sn sd W
    rw [hcy] at this
    exact this)
  clear hk hx hy hq hb hs hcx hcy l1 l2
  by_cases hz : z = 0
  case neg =>
    have hz9 : (z == 0) = false := by simp [hz]
    go_enter Tryz.func15, Tryz.ntmps15
    go_upto_region 1 with (fail)
    rw [← HW0.out]
    have a0 := (R0.out 0 _ rfl).1
    have a1 := (R0.out 1 _ rfl).1
    have la := cell_lt a0
    go_wp2_with fail
    refine (HF.out _).mono ?_
    rintro e w1 ⟨rfl, rfl⟩
    go_wp2_with fail
    refine (C66.out _ (Kept.refl _)).mono ?_
    rintro e w2 ⟨rfl, hk2⟩
    have K2 := Lib.hid hk2
    clear hk2 a0 a1 la
    by_cases hh : h = 0
    · obtain ⟨i0, j0, bm, sm⟩ := X4.out hh
      subst i0
      subst j0
      subst hh
      subst sm
      go_wp2_with fail
      refine (C1.out _ K2.out).mono ?_
      rintro e w7 ⟨rfl, hk7⟩
      have K7 := Lib.hid (K2.out.trans hk7)
      clear hk7
      go_wp2_with fail
      refine (C2.out _ K7.out).mono ?_
      rintro e w8 ⟨rfl, hk8⟩
      have K8 := Lib.hid (K7.out.trans hk8)
      clear hk8
      go_wp2_with fail
      refine (C3.out _ K8.out).mono ?_
      rintro e w9 ⟨rfl, hk9⟩
      have K9 := Lib.hid (K8.out.trans hk9)
      clear hk9
      go_wp2_with fail
      refine (alive_any _ (HE.out.kept K9.out)).mono ?_
      rintro e wa ⟨rfl, hka⟩
      go_wp2
      go_ret
      exact ⟨rfl, (K0.out.trans K9.out).trans hka⟩
    · have q0 := X3.out hh
      subst q0
      have h9 : (h != 0) = true := by simp [hh]
      go_wp2_with fail
      refine (C1.out _ K2.out).mono ?_
      rintro e w7 ⟨rfl, hk7⟩
      have K7 := Lib.hid (K2.out.trans hk7)
      clear hk7
      go_wp2_with fail
      refine (alive_any _ (HE.out.kept K7.out)).mono ?_
      rintro e wa ⟨rfl, hka⟩
      go_wp2
      go_ret
      exact ⟨rfl, (K0.out.trans K7.out).trans hka⟩
  subst hz
  go_enter Tryz.func15, Tryz.ntmps15
  go_upto_region 1 with (fail)
  rw [← HW0.out]
  have a0 := (R0.out 0 _ rfl).1
  have a1 := (R0.out 1 _ rfl).1
  have la := cell_lt a0
  go_wp2_with fail
  refine (HF.out _).mono ?_
  rintro e w1 ⟨rfl, rfl⟩
  go_wp2_with fail
  refine (C66.out _ (Kept.refl _)).mono ?_
  rintro e w2 ⟨rfl, hk2'⟩
  have K2 := Lib.hid hk2'
  clear hk2' a0 a1 la
  go_wp2_with fail
  refine (CA.out _ K2.out).mono ?_
  rintro e w3 ⟨rfl, hk3⟩
  obtain ⟨W3, hW3⟩ : ∃ W, W = w3.alloc (.cells #[.int .i64 x0, .int .i64 x1] 23) := ⟨_, rfl⟩
  have RA : RowKit.Hid (RowC W3 w3.heap.size [.int .i64 x0, .int .i64 x1]) := Lib.hid (by rw [hW3]; exact RowC.new w3 [.int .i64 x0, .int .i64 x1] 23)
  have K3 : RowKit.Hid (Kept W0 W3) := Lib.hid (((K2.out.alloc _).trans hk3).trans (show Kept w3 W3 by rw [hW3]; exact (Kept.refl _).alloc _))
  have HW3 := Lib.hid hW3
  clear hW3 hk3
  go_upto_region 6 with (fail)
  rw [← HW3.out]
  go_wp2_with fail
  refine (CB.out _ K3.out).mono ?_
  rintro e w4 ⟨rfl, hk4⟩
  obtain ⟨W4, hW4⟩ : ∃ W, W = w4.alloc (.cells #[.int .i64 y0, .int .i64 y1] 23) := ⟨_, rfl⟩
  have RB : RowKit.Hid (RowC W4 w4.heap.size [.int .i64 y0, .int .i64 y1]) := Lib.hid (by rw [hW4]; exact RowC.new w4 [.int .i64 y0, .int .i64 y1] 23)
  have K34 : RowKit.Hid (Kept W3 W4) := Lib.hid ((((Kept.refl _).alloc _).trans hk4).trans (show Kept w4 W4 by rw [hW4]; exact (Kept.refl _).alloc _))
  have HW4 := Lib.hid hW4
  clear hW4 hk4
  have K4 := Lib.hid (K3.out.trans K34.out)
  have a0 := (R0.out.kept K4.out 0 _ rfl).1
  have a1 := (R0.out.kept K4.out 1 _ rfl).1
  have la := cell_lt a0
  have b0 := (RA.out.kept K34.out 0 _ rfl).1
  have b1 := (RA.out.kept K34.out 1 _ rfl).1
  have lb := cell_lt b0
  have c0 := (RB.out 0 _ rfl).1
  have c1 := (RB.out 1 _ rfl).1
  have lc := cell_lt c0
  go_upto_region 7 with (fail)
  rw [← HW4.out]
  by_cases hx2 : x2 = 0
  · subst hx2
    by_cases hsn : 0 ≤ sn
    · have cx0 := X1.out (by first | rfl | trivial) (by first | rfl | trivial) hsn
      go_wp2_with fail
      refine (CX.out _).mono ?_
      rintro e w5 ⟨rfl, hk5⟩
      have K5 := Lib.hid (K4.out.trans hk5)
      have a0 := (R0.out.kept K5.out 0 _ rfl).1
      have a1 := (R0.out.kept K5.out 1 _ rfl).1
      have la := cell_lt a0
      have c0 := (RB.out.kept hk5 0 _ rfl).1
      have c1 := (RB.out.kept hk5 1 _ rfl).1
      have lc := cell_lt c0
      clear hk5 b0 b1 lb
      by_cases hy2 : y2 = 0
      · subst hy2
        by_cases hk9 : k < 100000
        · have cy0 := X2.out (by first | rfl | trivial) (by first | rfl | trivial) hk9
          go_wp2_with fail
          refine (CY.out _).mono ?_
          rintro e w6 ⟨rfl, hk6⟩
          have K6 := Lib.hid (K5.out.trans hk6)
          clear hk6
          by_cases hh : h = 0
          · obtain ⟨i0, j0, bm, sm⟩ := X4.out hh
            subst i0
            subst j0
            subst hh
            subst sm
            go_wp2_with fail
            refine (C1.out _ K6.out).mono ?_
            rintro e w7 ⟨rfl, hk7⟩
            have K7 := Lib.hid (K6.out.trans hk7)
            clear hk7
            go_wp2_with fail
            refine (C2.out _ K7.out).mono ?_
            rintro e w8 ⟨rfl, hk8⟩
            have K8 := Lib.hid (K7.out.trans hk8)
            clear hk8
            go_wp2_with fail
            refine (C3.out _ K8.out).mono ?_
            rintro e w9 ⟨rfl, hk9⟩
            have K9 := Lib.hid (K8.out.trans hk9)
            clear hk9
            go_wp2_with fail
            refine (alive_any _ (HE.out.kept K9.out)).mono ?_
            rintro e wa ⟨rfl, hka⟩
            go_wp2
            go_ret
            exact ⟨rfl, (K0.out.trans K9.out).trans hka⟩
          · have q0 := X3.out hh
            subst q0
            have h9 : (h != 0) = true := by simp [hh]
            go_wp2_with fail
            refine (C1.out _ K6.out).mono ?_
            rintro e w7 ⟨rfl, hk7⟩
            have K7 := Lib.hid (K6.out.trans hk7)
            clear hk7
            go_wp2_with fail
            refine (alive_any _ (HE.out.kept K7.out)).mono ?_
            rintro e wa ⟨rfl, hka⟩
            go_wp2
            go_ret
            exact ⟨rfl, (K0.out.trans K7.out).trans hka⟩
        · go_upto_region 9 with (fail)
          by_cases hh : h = 0
          · obtain ⟨i0, j0, bm, sm⟩ := X4.out hh
            subst i0
            subst j0
            subst hh
            subst sm
            go_wp2_with fail
            refine (C1.out _ K5.out).mono ?_
            rintro e w7 ⟨rfl, hk7⟩
            have K7 := Lib.hid (K5.out.trans hk7)
            clear hk7
            go_wp2_with fail
            refine (C2.out _ K7.out).mono ?_
            rintro e w8 ⟨rfl, hk8⟩
            have K8 := Lib.hid (K7.out.trans hk8)
            clear hk8
            go_wp2_with fail
            refine (C3.out _ K8.out).mono ?_
            rintro e w9 ⟨rfl, hk9⟩
            have K9 := Lib.hid (K8.out.trans hk9)
            clear hk9
            go_wp2_with fail
            refine (alive_any _ (HE.out.kept K9.out)).mono ?_
            rintro e wa ⟨rfl, hka⟩
            go_wp2
            go_ret
            exact ⟨rfl, (K0.out.trans K9.out).trans hka⟩
          · have q0 := X3.out hh
            subst q0
            have h9 : (h != 0) = true := by simp [hh]
            go_wp2_with fail
            refine (C1.out _ K5.out).mono ?_
            rintro e w7 ⟨rfl, hk7⟩
            have K7 := Lib.hid (K5.out.trans hk7)
            clear hk7
            go_wp2_with fail
            refine (alive_any _ (HE.out.kept K7.out)).mono ?_
            rintro e wa ⟨rfl, hka⟩
            go_wp2
            go_ret
            exact ⟨rfl, (K0.out.trans K7.out).trans hka⟩
      · have hy9 : (y2 == 0) = false := by simp [hy2]
        go_upto_region 9 with (fail)
        by_cases hh : h = 0
        · obtain ⟨i0, j0, bm, sm⟩ := X4.out hh
          subst i0
          subst j0
          subst hh
          subst sm
          go_wp2_with fail
          refine (C1.out _ K5.out).mono ?_
          rintro e w7 ⟨rfl, hk7⟩
          have K7 := Lib.hid (K5.out.trans hk7)
          clear hk7
          go_wp2_with fail
          refine (C2.out _ K7.out).mono ?_
          rintro e w8 ⟨rfl, hk8⟩
          have K8 := Lib.hid (K7.out.trans hk8)
          clear hk8
          go_wp2_with fail
          refine (C3.out _ K8.out).mono ?_
          rintro e w9 ⟨rfl, hk9⟩
          have K9 := Lib.hid (K8.out.trans hk9)
          clear hk9
          go_wp2_with fail
          refine (alive_any _ (HE.out.kept K9.out)).mono ?_
          rintro e wa ⟨rfl, hka⟩
          go_wp2
          go_ret
          exact ⟨rfl, (K0.out.trans K9.out).trans hka⟩
        · have q0 := X3.out hh
          subst q0
          have h9 : (h != 0) = true := by simp [hh]
          go_wp2_with fail
          refine (C1.out _ K5.out).mono ?_
          rintro e w7 ⟨rfl, hk7⟩
          have K7 := Lib.hid (K5.out.trans hk7)
          clear hk7
          go_wp2_with fail
          refine (alive_any _ (HE.out.kept K7.out)).mono ?_
          rintro e wa ⟨rfl, hka⟩
          go_wp2
          go_ret
          exact ⟨rfl, (K0.out.trans K7.out).trans hka⟩
    · by_cases hy2 : y2 = 0
      · subst hy2
        by_cases hk9 : k < 100000
        · have cy0 := X2.out (by first | rfl | trivial) (by first | rfl | trivial) hk9
          go_wp2_with fail
          refine (CY.out _).mono ?_
          rintro e w6 ⟨rfl, hk6⟩
          have K6 := Lib.hid (K4.out.trans hk6)
          clear hk6
          by_cases hh : h = 0
          · obtain ⟨i0, j0, bm, sm⟩ := X4.out hh
            subst i0
            subst j0
            subst hh
            subst sm
            go_wp2_with fail
            refine (C1.out _ K6.out).mono ?_
            rintro e w7 ⟨rfl, hk7⟩
            have K7 := Lib.hid (K6.out.trans hk7)
            clear hk7
            go_wp2_with fail
            refine (C2.out _ K7.out).mono ?_
            rintro e w8 ⟨rfl, hk8⟩
            have K8 := Lib.hid (K7.out.trans hk8)
            clear hk8
            go_wp2_with fail
            refine (C3.out _ K8.out).mono ?_
            rintro e w9 ⟨rfl, hk9⟩
            have K9 := Lib.hid (K8.out.trans hk9)
            clear hk9
            go_wp2_with fail
            refine (alive_any _ (HE.out.kept K9.out)).mono ?_
            rintro e wa ⟨rfl, hka⟩
            go_wp2
            go_ret
            exact ⟨rfl, (K0.out.trans K9.out).trans hka⟩
          · have q0 := X3.out hh
            subst q0
            have h9 : (h != 0) = true := by simp [hh]
            go_wp2_with fail
            refine (C1.out _ K6.out).mono ?_
            rintro e w7 ⟨rfl, hk7⟩
            have K7 := Lib.hid (K6.out.trans hk7)
            clear hk7
            go_wp2_with fail
            refine (alive_any _ (HE.out.kept K7.out)).mono ?_
            rintro e wa ⟨rfl, hka⟩
            go_wp2
            go_ret
            exact ⟨rfl, (K0.out.trans K7.out).trans hka⟩
        · go_upto_region 9 with (fail)
          by_cases hh : h = 0
          · obtain ⟨i0, j0, bm, sm⟩ := X4.out hh
            subst i0
            subst j0
            subst hh
            subst sm
            go_wp2_with fail
            refine (C1.out _ K4.out).mono ?_
            rintro e w7 ⟨rfl, hk7⟩
            have K7 := Lib.hid (K4.out.trans hk7)
            clear hk7
            go_wp2_with fail
            refine (C2.out _ K7.out).mono ?_
            rintro e w8 ⟨rfl, hk8⟩
            have K8 := Lib.hid (K7.out.trans hk8)
            clear hk8
            go_wp2_with fail
            refine (C3.out _ K8.out).mono ?_
            rintro e w9 ⟨rfl, hk9⟩
            have K9 := Lib.hid (K8.out.trans hk9)
            clear hk9
            go_wp2_with fail
            refine (alive_any _ (HE.out.kept K9.out)).mono ?_
            rintro e wa ⟨rfl, hka⟩
            go_wp2
            go_ret
            exact ⟨rfl, (K0.out.trans K9.out).trans hka⟩
          · have q0 := X3.out hh
            subst q0
            have h9 : (h != 0) = true := by simp [hh]
            go_wp2_with fail
            refine (C1.out _ K4.out).mono ?_
            rintro e w7 ⟨rfl, hk7⟩
            have K7 := Lib.hid (K4.out.trans hk7)
            clear hk7
            go_wp2_with fail
            refine (alive_any _ (HE.out.kept K7.out)).mono ?_
            rintro e wa ⟨rfl, hka⟩
            go_wp2
            go_ret
            exact ⟨rfl, (K0.out.trans K7.out).trans hka⟩
      · have hy9 : (y2 == 0) = false := by simp [hy2]
        go_upto_region 9 with (fail)
        by_cases hh : h = 0
        · obtain ⟨i0, j0, bm, sm⟩ := X4.out hh
          subst i0
          subst j0
          subst hh
          subst sm
          go_wp2_with fail
          refine (C1.out _ K4.out).mono ?_
          rintro e w7 ⟨rfl, hk7⟩
          have K7 := Lib.hid (K4.out.trans hk7)
          clear hk7
          go_wp2_with fail
          refine (C2.out _ K7.out).mono ?_
          rintro e w8 ⟨rfl, hk8⟩
          have K8 := Lib.hid (K7.out.trans hk8)
          clear hk8
          go_wp2_with fail
          refine (C3.out _ K8.out).mono ?_
          rintro e w9 ⟨rfl, hk9⟩
          have K9 := Lib.hid (K8.out.trans hk9)
          clear hk9
          go_wp2_with fail
          refine (alive_any _ (HE.out.kept K9.out)).mono ?_
          rintro e wa ⟨rfl, hka⟩
          go_wp2
          go_ret
          exact ⟨rfl, (K0.out.trans K9.out).trans hka⟩
        · have q0 := X3.out hh
          subst q0
          have h9 : (h != 0) = true := by simp [hh]
          go_wp2_with fail
          refine (C1.out _ K4.out).mono ?_
          rintro e w7 ⟨rfl, hk7⟩
          have K7 := Lib.hid (K4.out.trans hk7)
          clear hk7
          go_wp2_with fail
          refine (alive_any _ (HE.out.kept K7.out)).mono ?_
          rintro e wa ⟨rfl, hka⟩
          go_wp2
          go_ret
          exact ⟨rfl, (K0.out.trans K7.out).trans hka⟩
  · have hx9 : (x2 == 0) = false := by simp [hx2]
    by_cases hy2 : y2 = 0
    · subst hy2
      by_cases hk9 : k < 100000
      · have cy0 := X2.out (by first | rfl | trivial) (by first | rfl | trivial) hk9
        go_wp2_with fail
        refine (CY.out _).mono ?_
        rintro e w6 ⟨rfl, hk6⟩
        have K6 := Lib.hid (K4.out.trans hk6)
        clear hk6
        by_cases hh : h = 0
        · obtain ⟨i0, j0, bm, sm⟩ := X4.out hh
          subst i0
          subst j0
          subst hh
          subst sm
          go_wp2_with fail
          refine (C1.out _ K6.out).mono ?_
          rintro e w7 ⟨rfl, hk7⟩
          have K7 := Lib.hid (K6.out.trans hk7)
          clear hk7
          go_wp2_with fail
          refine (C2.out _ K7.out).mono ?_
          rintro e w8 ⟨rfl, hk8⟩
          have K8 := Lib.hid (K7.out.trans hk8)
          clear hk8
          go_wp2_with fail
          refine (C3.out _ K8.out).mono ?_
          rintro e w9 ⟨rfl, hk9⟩
          have K9 := Lib.hid (K8.out.trans hk9)
          clear hk9
          go_wp2_with fail
          refine (alive_any _ (HE.out.kept K9.out)).mono ?_
          rintro e wa ⟨rfl, hka⟩
          go_wp2
          go_ret
          exact ⟨rfl, (K0.out.trans K9.out).trans hka⟩
        · have q0 := X3.out hh
          subst q0
          have h9 : (h != 0) = true := by simp [hh]
          go_wp2_with fail
          refine (C1.out _ K6.out).mono ?_
          rintro e w7 ⟨rfl, hk7⟩
          have K7 := Lib.hid (K6.out.trans hk7)
          clear hk7
          go_wp2_with fail
          refine (alive_any _ (HE.out.kept K7.out)).mono ?_
          rintro e wa ⟨rfl, hka⟩
          go_wp2
          go_ret
          exact ⟨rfl, (K0.out.trans K7.out).trans hka⟩
      · go_upto_region 9 with (fail)
        by_cases hh : h = 0
        · obtain ⟨i0, j0, bm, sm⟩ := X4.out hh
          subst i0
          subst j0
          subst hh
          subst sm
          go_wp2_with fail
          refine (C1.out _ K4.out).mono ?_
          rintro e w7 ⟨rfl, hk7⟩
          have K7 := Lib.hid (K4.out.trans hk7)
          clear hk7
          go_wp2_with fail
          refine (C2.out _ K7.out).mono ?_
          rintro e w8 ⟨rfl, hk8⟩
          have K8 := Lib.hid (K7.out.trans hk8)
          clear hk8
          go_wp2_with fail
          refine (C3.out _ K8.out).mono ?_
          rintro e w9 ⟨rfl, hk9⟩
          have K9 := Lib.hid (K8.out.trans hk9)
          clear hk9
          go_wp2_with fail
          refine (alive_any _ (HE.out.kept K9.out)).mono ?_
          rintro e wa ⟨rfl, hka⟩
          go_wp2
          go_ret
          exact ⟨rfl, (K0.out.trans K9.out).trans hka⟩
        · have q0 := X3.out hh
          subst q0
          have h9 : (h != 0) = true := by simp [hh]
          go_wp2_with fail
          refine (C1.out _ K4.out).mono ?_
          rintro e w7 ⟨rfl, hk7⟩
          have K7 := Lib.hid (K4.out.trans hk7)
          clear hk7
          go_wp2_with fail
          refine (alive_any _ (HE.out.kept K7.out)).mono ?_
          rintro e wa ⟨rfl, hka⟩
          go_wp2
          go_ret
          exact ⟨rfl, (K0.out.trans K7.out).trans hka⟩
    · have hy9 : (y2 == 0) = false := by simp [hy2]
      go_upto_region 9 with (fail)
      by_cases hh : h = 0
      · obtain ⟨i0, j0, bm, sm⟩ := X4.out hh
        subst i0
        subst j0
        subst hh
        subst sm
        go_wp2_with fail
        refine (C1.out _ K4.out).mono ?_
        rintro e w7 ⟨rfl, hk7⟩
        have K7 := Lib.hid (K4.out.trans hk7)
        clear hk7
        go_wp2_with fail
        refine (C2.out _ K7.out).mono ?_
        rintro e w8 ⟨rfl, hk8⟩
        have K8 := Lib.hid (K7.out.trans hk8)
        clear hk8
        go_wp2_with fail
        refine (C3.out _ K8.out).mono ?_
        rintro e w9 ⟨rfl, hk9⟩
        have K9 := Lib.hid (K8.out.trans hk9)
        clear hk9
        go_wp2_with fail
        refine (alive_any _ (HE.out.kept K9.out)).mono ?_
        rintro e wa ⟨rfl, hka⟩
        go_wp2
        go_ret
        exact ⟨rfl, (K0.out.trans K9.out).trans hka⟩
      · have q0 := X3.out hh
        subst q0
        have h9 : (h != 0) = true := by simp [hh]
        go_wp2_with fail
        refine (C1.out _ K4.out).mono ?_
        rintro e w7 ⟨rfl, hk7⟩
        have K7 := Lib.hid (K4.out.trans hk7)
        clear hk7
        go_wp2_with fail
        refine (alive_any _ (HE.out.kept K7.out)).mono ?_
        rintro e wa ⟨rfl, hka⟩
        go_wp2
        go_ret
        exact ⟨rfl, (K0.out.trans K7.out).trans hka⟩
end Go.Proofs.YtcjpecdnenemaaaGreatDoor
