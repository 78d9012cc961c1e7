/-
  the law MarkAlike
-/
import Derived.Test.YtologmoanaccpaaGreatDoorVQ
import Derived.Test.YtologmoanaccpaaGreatDoorZf
import Derived.Test.YtologmoanaccpaaGreatDoorBN
namespace Go.Proofs.YtologmoanaccpaaGreatDoor
set_option linter.all false
open Go.RowKit Go.Shelf

def mpL (ms : List Mk) (fs : List Fd) (day : Int) : List Pr := if inE ms fs day ≠ 0 then [] else misL fs (rfL ms day 40)
theorem prC_two (x : Pr) : (prC x).length = 2 := rfl
theorem MisP.get {w w' : World} {ms : List Mk} {fs : List Fd} {day : Int} {e : Ending} (h : MisP w ms fs day e w') : ∃ A n c, e = .returned (.tuple #[.slice A n c, .int .i64 (inE ms fs day)]) ∧ SlA prC 2 (fun _ => True) w' A n c (mpL ms fs day) ∧ Kept w w' := by
  obtain ⟨⟨h0, he⟩ | ⟨h0, l, v, he, hp, hs, ho⟩, hk⟩ := h
  · exact ⟨none, 0, 0, he, by unfold mpL; rw [if_pos h0]; exact sla_nil _, hk⟩
  · obtain ⟨hsm, _⟩ := fstE_two (show fstE [smE ms fs, errB (inB day 0 100000)] = 0 from h0)
    obtain ⟨_, _, hmv, _, _, hcl⟩ := sm_ok hsm
    obtain ⟨A, c, rfl, hsl⟩ := own_slA (enc := prC) (ok := fun _ => True) prC_two ho rfl (fun _ _ => trivial)
    rw [rf_eq hcl hmv hp hs] at he hsl
    exact ⟨A, _, c, by rw [h0]; exact he, by unfold mpL; rw [if_neg (fun h => h h0)]; exact hsl, hk⟩
theorem RmP.get {w w' : World} {ms : List Mk} {fs : List Fd} {day : Int} {e : Ending} (h : RmP w ms fs day e w') : ∃ A n c, e = .returned (.tuple #[.slice A n c, .int .i64 (inE ms fs day)]) ∧ SlA prC 2 (fun _ => True) w' A n c (mpL ms fs day) ∧ Kept w w' := by
  obtain ⟨⟨h0, he⟩ | ⟨h0, v, he, ho⟩, hk⟩ := h
  · exact ⟨none, 0, 0, he, by unfold mpL; rw [if_pos h0]; exact sla_nil _, hk⟩
  · obtain ⟨A, c, rfl, hsl⟩ := own_slA (enc := prC) (ok := fun _ => True) prC_two ho rfl (fun _ _ => trivial)
    exact ⟨A, _, c, by rw [h0]; exact he, by unfold mpL; rw [if_neg (fun h => h h0)]; exact hsl, hk⟩
set_option maxRecDepth 100000 in
set_option maxHeartbeats 12800000 in
theorem markAlike_any (A B : Option Addr) (n c m d : Nat) (ms : List Mk) (fs : List Fd) (day o1 o2 : Int) (s t : Sg) (w : World) (hs : SmA w A n c ms B m d fs) (hso : s.ok) (hto : t.ok) (hE : EnvT w) (hM : EnvM w) :
    Calls Tryz.prog 5 #[.agg #[.slice A n c, .slice B m d], .int .i64 day, .int .i64 o1, .int .i64 o2, .agg #[.int .u8 s.s0, .int .u8 s.s1, .int .u8 s.s2, .int .u8 s.s3, .int .u8 s.s4, .int .u8 s.s5], .agg #[.int .u8 t.s0, .int .u8 t.s1, .int .u8 t.s2, .int .u8 t.s3, .int .u8 t.s4, .int .u8 t.s5]] w fun e w' => e = .returned (.bool true) ∧ Kept w w' := by
  obtain ⟨Wa, hWa⟩ : ∃ Wa, Wa = w.alloc (.cells #[.slice A n c, .slice B m d] 25) := ⟨_, rfl⟩
  obtain ⟨Wb, hWb⟩ : ∃ Wb, Wb = Wa.alloc (.cells #[.int .u8 s.s0, .int .u8 s.s1, .int .u8 s.s2, .int .u8 s.s3, .int .u8 s.s4, .int .u8 s.s5] 39) := ⟨_, rfl⟩
  obtain ⟨W0, hW0⟩ : ∃ W0, W0 = Wb.alloc (.cells #[.int .u8 t.s0, .int .u8 t.s1, .int .u8 t.s2, .int .u8 t.s3, .int .u8 t.s4, .int .u8 t.s5] 39) := ⟨_, rfl⟩
  have ka : Kept w Wa := by rw [hWa]; exact (Kept.refl _).alloc _
  have kb : Kept Wa Wb := by rw [hWb]; exact (Kept.refl _).alloc _
  have kc : Kept Wb W0 := by rw [hW0]; exact (Kept.refl _).alloc _
  have K0 : RowKit.Hid (Kept w W0) := Lib.hid ((ka.trans kb).trans kc)
  have za : Wa.heap.size = w.heap.size + 1 := by rw [hWa]; simp
  have zb : Wb.heap.size = w.heap.size + 1 + 1 := by rw [hWb]; simp [za]
  have RA : RowKit.Hid (RowC W0 w.heap.size [.slice A n c, .slice B m d]) := Lib.hid (RowC.kept (by rw [hWa]; exact RowC.new w [.slice A n c, .slice B m d] 25) (kb.trans kc))
  have RB : RowKit.Hid (RowC W0 (w.heap.size + 1) (sgV s)) := Lib.hid (by rw [← za]; exact RowC.kept (by rw [hWb]; exact RowC.new Wa (sgV s) 39) kc)
  have RC : RowKit.Hid (RowC W0 (w.heap.size + 1 + 1) (sgV t)) := Lib.hid (by rw [← zb, hW0]; exact RowC.new Wb (sgV t) 39)
  have HW := Lib.hid hW0
  have HWB := Lib.hid hWb
  have HWA := Lib.hid hWa
  have HS := Lib.hid (hs.kept K0.out)
  have HMK : RowKit.Hid (∀ W, Kept W0 W → Calls Tryz.prog 19 #[] W fun e w' => e = .returned (.bool true) ∧ Kept W w') := Lib.hid (fun W hW => marked_any W (hE.kept (K0.out.trans hW)) (hM.kept (K0.out.trans hW)))
  have H27 : RowKit.Hid (∀ W, Kept W0 W → Calls Tryz.prog 27 #[.agg #[.slice A n c, .slice B m d], .slice none 0 0, .slice none 0 0] W (FewP W)) := Lib.hid (fun W hW => few0_any A B n c m d ms fs W (HS.out.kept hW))
  obtain ⟨⟨y, b1, E1⟩, hv⟩ : ∃ q, alV ms fs day o1 o2 = q := ⟨_, rfl⟩
  have HAL : ∀ W e w', AlP W ms fs day o1 o2 e w' → e = .returned (.tuple #[.agg #[.int .u8 y.s0, .int .u8 y.s1, .int .u8 y.s2, .int .u8 y.s3, .int .u8 y.s4, .int .u8 y.s5], .bool b1, .int .i64 E1]) ∧ Kept W w' := fun W e w' h => by
    unfold AlP at h
    rw [hv] at h
    exact h
  have H35 : RowKit.Hid (∀ W, Kept W0 W → Calls Tryz.prog 35 #[.agg #[.slice A n c, .slice B m d], .int .i64 day, .int .i64 o1, .int .i64 o2] W fun e w' => e = .returned (.tuple #[.agg #[.int .u8 y.s0, .int .u8 y.s1, .int .u8 y.s2, .int .u8 y.s3, .int .u8 y.s4, .int .u8 y.s5], .bool b1, .int .i64 E1]) ∧ Kept W w') := Lib.hid (fun W hW => (alikeX_any A B n c m d ms fs day o1 o2 W (HS.out.kept hW)).mono fun e w' h => HAL _ _ _ h)
  have H36 : RowKit.Hid (∀ W, Kept W0 W → Calls Tryz.prog 36 #[.agg #[.slice A n c, .slice B m d], .int .i64 day, .int .i64 o1, .int .i64 o2] W fun e w' => e = .returned (.tuple #[.agg #[.int .u8 y.s0, .int .u8 y.s1, .int .u8 y.s2, .int .u8 y.s3, .int .u8 y.s4, .int .u8 y.s5], .bool b1, .int .i64 E1]) ∧ Kept W w') := Lib.hid (fun W hW => (ralike_any A B n c m d ms fs day o1 o2 W (HS.out.kept hW)).mono fun e w' h => HAL _ _ _ h)
  obtain ⟨E2, hE2⟩ : ∃ E, inE ms fs day = E := ⟨_, rfl⟩
  obtain ⟨L, hL⟩ : ∃ L, mpL ms fs day = L := ⟨_, rfl⟩
  have H37 : RowKit.Hid (∀ W, Kept W0 W → Calls Tryz.prog 37 #[.agg #[.slice A n c, .slice B m d], .int .i64 day] W fun e w' => ∃ A n c, e = .returned (.tuple #[.slice A n c, .int .i64 E2]) ∧ SlA prC 2 (fun _ => True) w' A n c L ∧ Kept W w') := Lib.hid (fun W hW => (mistaken_any A B n c m d ms fs day W (HS.out.kept hW)).mono fun e w' h => by have := MisP.get h; rwa [hE2, hL] at this)
  have H38 : RowKit.Hid (∀ W, Kept W0 W → Calls Tryz.prog 38 #[.agg #[.slice A n c, .slice B m d], .int .i64 day] W fun e w' => ∃ A n c, e = .returned (.tuple #[.slice A n c, .int .i64 E2]) ∧ SlA prC 2 (fun _ => True) w' A n c L ∧ Kept W w') := Lib.hid (fun W hW => (rmistaken_any A B n c m d ms fs day W (HS.out.kept hW)).mono fun e w' h => by have := RmP.get h; rwa [hE2, hL] at this)
  obtain ⟨E3, hE3⟩ : ∃ E, apE ms fs s t = E := ⟨_, rfl⟩
  obtain ⟨N3, hN3⟩ : ∃ N, apO ms fs s t = N := ⟨_, rfl⟩
  have H39 : RowKit.Hid (∀ W, Kept W0 W → Calls Tryz.prog 39 #[.agg #[.slice A n c, .slice B m d], .agg #[.int .u8 s.s0, .int .u8 s.s1, .int .u8 s.s2, .int .u8 s.s3, .int .u8 s.s4, .int .u8 s.s5], .agg #[.int .u8 t.s0, .int .u8 t.s1, .int .u8 t.s2, .int .u8 t.s3, .int .u8 t.s4, .int .u8 t.s5]] W fun e w' => e = .returned (.tuple #[.int .i64 N3, .int .i64 E3]) ∧ Kept W w') := Lib.hid (fun W hW => by rw [← hE3, ← hN3]; exact apartX_any A B n c m d ms fs s t W (HS.out.kept hW) hso hto)
  have H40 : RowKit.Hid (∀ W, Kept W0 W → Calls Tryz.prog 40 #[.agg #[.slice A n c, .slice B m d], .agg #[.int .u8 s.s0, .int .u8 s.s1, .int .u8 s.s2, .int .u8 s.s3, .int .u8 s.s4, .int .u8 s.s5], .agg #[.int .u8 t.s0, .int .u8 t.s1, .int .u8 t.s2, .int .u8 t.s3, .int .u8 t.s4, .int .u8 t.s5]] W fun e w' => e = .returned (.tuple #[.int .i64 N3, .int .i64 E3]) ∧ Kept W w') := Lib.hid (fun W hW => by rw [← hE3, ← hN3]; exact rapart_any A B n c m d ms fs s t W (HS.out.kept hW) hso hto)
  have HEQ : RowKit.Hid (∀ W, (binOp BinOp.eql 39 (.agg #[.int .u8 y.s0, .int .u8 y.s1, .int .u8 y.s2, .int .u8 y.s3, .int .u8 y.s4, .int .u8 y.s5]) (.agg #[.int .u8 y.s0, .int .u8 y.s1, .int .u8 y.s2, .int .u8 y.s3, .int .u8 y.s4, .int .u8 y.s5])).run Tryz.prog W = .ok (.bool true) W) := Lib.hid (fun W => by
    rw [run_eql_struct]
    have h := eq39r y W
    unfold sgAgg at h
    rw [h]
    rfl)
  clear hWa hWb hW0 ka kb kc za zb hs hso hto hE hM hv HAL hE2 hL hE3 hN3
  have a0 := (RA.out 0 _ rfl).1
  have a1 := (RA.out 1 _ rfl).1
  have la := cell_lt a0
  go_enter Tryz.func5, Tryz.ntmps5
  go_upto_region 1 with (fail)
  rw [← HWA.out, ← HWB.out, ← HW.out]
  go_wp2_with fail
  refine (H27.out _ (Kept.refl _)).mono ?_
  rintro e w1 ⟨⟨b, rfl⟩, hk1⟩
  have K1 := Lib.hid hk1
  clear hk1 a0 a1 la
  cases b with
  | false =>
    go_wp2_with fail
    refine (HMK.out _ K1.out).mono ?_
    rintro e w2 ⟨rfl, hk2⟩
    have K2 := Lib.hid (K0.out.trans (K1.out.trans hk2))
    clear hk2
    go_wp2_with fail
    go_ret
    exact ⟨rfl, K2.out⟩
  | true =>
    have a0 := (RA.out.kept K1.out 0 _ rfl).1
    have a1 := (RA.out.kept K1.out 1 _ rfl).1
    have la := cell_lt a0
    go_wp2_with fail
    refine (H35.out _ K1.out).mono ?_
    rintro e w2 ⟨rfl, hk2⟩
    have K2 := Lib.hid (K1.out.trans hk2)
    clear hk2 a0 a1 la
    go_upto_region 4 with (fail)
    obtain ⟨Wx, hWx⟩ : ∃ Wx, Wx = w2.alloc (.cells #[.int .u8 y.s0, .int .u8 y.s1, .int .u8 y.s2, .int .u8 y.s3, .int .u8 y.s4, .int .u8 y.s5] 39) := ⟨_, rfl⟩
    have k9 : Kept w2 Wx := by rw [hWx]; exact (Kept.refl _).alloc _
    have RX := Lib.hid (show RowC Wx w2.heap.size (sgV y) by rw [hWx]; exact RowC.new w2 (sgV y) 39)
    rw [← hWx]
    have KX := Lib.hid (K2.out.trans k9)
    clear hWx k9
    have a0 := (RA.out.kept KX.out 0 _ rfl).1
    have a1 := (RA.out.kept KX.out 1 _ rfl).1
    have la := cell_lt a0
    go_wp2_with fail
    refine (H36.out _ KX.out).mono ?_
    rintro e w3 ⟨rfl, hk3⟩
    have K3 := Lib.hid (KX.out.trans hk3)
    have RX3 := Lib.hid (RX.out.kept hk3)
    clear hk3 a0 a1 la
    go_upto_region 5 with (fail)
    obtain ⟨Wy, hWy⟩ : ∃ Wy, Wy = w3.alloc (.cells #[.int .u8 y.s0, .int .u8 y.s1, .int .u8 y.s2, .int .u8 y.s3, .int .u8 y.s4, .int .u8 y.s5] 39) := ⟨_, rfl⟩
    have k9 : Kept w3 Wy := by rw [hWy]; exact (Kept.refl _).alloc _
    have RY := Lib.hid (show RowC Wy w3.heap.size (sgV y) by rw [hWy]; exact RowC.new w3 (sgV y) 39)
    rw [← hWy]
    have KY := Lib.hid (K3.out.trans k9)
    have RXY := Lib.hid (RX3.out.kept k9)
    clear hWy k9
    have a0 := (RA.out.kept KY.out 0 _ rfl).1
    have a1 := (RA.out.kept KY.out 1 _ rfl).1
    have la := cell_lt a0
    go_wp2_with fail
    refine (H37.out _ KY.out).mono ?_
    rintro e w4 ⟨A4, n4, c4, rfl, hl4, hk4⟩
    have HL4 := Lib.hid hl4
    have KK4 := Lib.hid hk4
    have K4 := Lib.hid (KY.out.trans hk4)
    clear hk4 hl4 a0 a1 la
    have a0 := (RA.out.kept K4.out 0 _ rfl).1
    have a1 := (RA.out.kept K4.out 1 _ rfl).1
    have la := cell_lt a0
    go_wp2_with fail
    refine (H38.out _ K4.out).mono ?_
    rintro e w5 ⟨A5, n5, c5, rfl, hl5, hk5⟩
    have HL5 := Lib.hid hl5
    have HL45 := Lib.hid (HL4.out.kept hk5)
    have KK5 := Lib.hid (KK4.out.trans hk5)
    have K5 := Lib.hid (K4.out.trans hk5)
    clear hk5 hl5 a0 a1 la
    have a0 := (RA.out.kept K5.out 0 _ rfl).1
    have a1 := (RA.out.kept K5.out 1 _ rfl).1
    have la := cell_lt a0
    have s0 := (show w5.cell? ⟨w.heap.size + 1, 0, none⟩ = some (.int .u8 s.s0) from (RB.out.kept K5.out 0 _ rfl).1)
    have t0 := (show w5.cell? ⟨w.heap.size + 1 + 1, 0, none⟩ = some (.int .u8 t.s0) from (RC.out.kept K5.out 0 _ rfl).1)
    have s1 := (show w5.cell? ⟨w.heap.size + 1, 1, none⟩ = some (.int .u8 s.s1) from (RB.out.kept K5.out 1 _ rfl).1)
    have t1 := (show w5.cell? ⟨w.heap.size + 1 + 1, 1, none⟩ = some (.int .u8 t.s1) from (RC.out.kept K5.out 1 _ rfl).1)
    have s2 := (show w5.cell? ⟨w.heap.size + 1, 2, none⟩ = some (.int .u8 s.s2) from (RB.out.kept K5.out 2 _ rfl).1)
    have t2 := (show w5.cell? ⟨w.heap.size + 1 + 1, 2, none⟩ = some (.int .u8 t.s2) from (RC.out.kept K5.out 2 _ rfl).1)
    have s3 := (show w5.cell? ⟨w.heap.size + 1, 3, none⟩ = some (.int .u8 s.s3) from (RB.out.kept K5.out 3 _ rfl).1)
    have t3 := (show w5.cell? ⟨w.heap.size + 1 + 1, 3, none⟩ = some (.int .u8 t.s3) from (RC.out.kept K5.out 3 _ rfl).1)
    have s4 := (show w5.cell? ⟨w.heap.size + 1, 4, none⟩ = some (.int .u8 s.s4) from (RB.out.kept K5.out 4 _ rfl).1)
    have t4 := (show w5.cell? ⟨w.heap.size + 1 + 1, 4, none⟩ = some (.int .u8 t.s4) from (RC.out.kept K5.out 4 _ rfl).1)
    have s5 := (show w5.cell? ⟨w.heap.size + 1, 5, none⟩ = some (.int .u8 s.s5) from (RB.out.kept K5.out 5 _ rfl).1)
    have t5 := (show w5.cell? ⟨w.heap.size + 1 + 1, 5, none⟩ = some (.int .u8 t.s5) from (RC.out.kept K5.out 5 _ rfl).1)
    have ls := cell_lt s0
    have lt := cell_lt t0
    go_wp2_with fail
    refine (H39.out _ K5.out).mono ?_
    rintro e w6 ⟨rfl, hk6⟩
    have HL56 := Lib.hid (HL5.out.kept hk6)
    have HL46 := Lib.hid (HL45.out.kept hk6)
    have KK6 := Lib.hid (KK5.out.trans hk6)
    have K6 := Lib.hid (K5.out.trans hk6)
    clear hk6 a0 a1 la s0 s1 s2 s3 s4 s5 t0 t1 t2 t3 t4 t5 ls lt
    have a0 := (RA.out.kept K6.out 0 _ rfl).1
    have a1 := (RA.out.kept K6.out 1 _ rfl).1
    have la := cell_lt a0
    have s0 := (show w6.cell? ⟨w.heap.size + 1, 0, none⟩ = some (.int .u8 s.s0) from (RB.out.kept K6.out 0 _ rfl).1)
    have t0 := (show w6.cell? ⟨w.heap.size + 1 + 1, 0, none⟩ = some (.int .u8 t.s0) from (RC.out.kept K6.out 0 _ rfl).1)
    have s1 := (show w6.cell? ⟨w.heap.size + 1, 1, none⟩ = some (.int .u8 s.s1) from (RB.out.kept K6.out 1 _ rfl).1)
    have t1 := (show w6.cell? ⟨w.heap.size + 1 + 1, 1, none⟩ = some (.int .u8 t.s1) from (RC.out.kept K6.out 1 _ rfl).1)
    have s2 := (show w6.cell? ⟨w.heap.size + 1, 2, none⟩ = some (.int .u8 s.s2) from (RB.out.kept K6.out 2 _ rfl).1)
    have t2 := (show w6.cell? ⟨w.heap.size + 1 + 1, 2, none⟩ = some (.int .u8 t.s2) from (RC.out.kept K6.out 2 _ rfl).1)
    have s3 := (show w6.cell? ⟨w.heap.size + 1, 3, none⟩ = some (.int .u8 s.s3) from (RB.out.kept K6.out 3 _ rfl).1)
    have t3 := (show w6.cell? ⟨w.heap.size + 1 + 1, 3, none⟩ = some (.int .u8 t.s3) from (RC.out.kept K6.out 3 _ rfl).1)
    have s4 := (show w6.cell? ⟨w.heap.size + 1, 4, none⟩ = some (.int .u8 s.s4) from (RB.out.kept K6.out 4 _ rfl).1)
    have t4 := (show w6.cell? ⟨w.heap.size + 1 + 1, 4, none⟩ = some (.int .u8 t.s4) from (RC.out.kept K6.out 4 _ rfl).1)
    have s5 := (show w6.cell? ⟨w.heap.size + 1, 5, none⟩ = some (.int .u8 s.s5) from (RB.out.kept K6.out 5 _ rfl).1)
    have t5 := (show w6.cell? ⟨w.heap.size + 1 + 1, 5, none⟩ = some (.int .u8 t.s5) from (RC.out.kept K6.out 5 _ rfl).1)
    have ls := cell_lt s0
    have lt := cell_lt t0
    go_wp2_with fail
    refine (H40.out _ K6.out).mono ?_
    rintro e w7 ⟨rfl, hk7⟩
    have HL57 := Lib.hid (HL56.out.kept hk7)
    have HL47 := Lib.hid (HL46.out.kept hk7)
    have KK7 := Lib.hid (KK6.out.trans hk7)
    have K7 := Lib.hid (K6.out.trans hk7)
    clear hk7 a0 a1 la s0 s1 s2 s3 s4 s5 t0 t1 t2 t3 t4 t5 ls lt
    have q1 : (b1 == b1) = true := by simp
    have q2 : (E1 == E1) = true := by simp
    have q3 : (E2 == E2) = true := by simp
    have q4 : (N3 == N3) = true := by simp
    have q5 : (E3 == E3) = true := by simp
    go_wp2_with fail
    refine (HMK.out _ K7.out).mono ?_
    rintro e w8 ⟨rfl, hk8⟩
    have HSP := Lib.hid (samePairs_any A4 n4 c4 L A5 n5 c5 L w8 (HL47.out.kept hk8) (HL57.out.kept hk8))
    have K8 := Lib.hid (K0.out.trans (K7.out.trans hk8))
    have rx := RXY.out.kept (KK7.out.trans hk8)
    have ry := RY.out.kept (KK7.out.trans hk8)
    clear hk8
    have x0 := (rx 0 _ rfl).1
    have y0 := (ry 0 _ rfl).1
    have x1 := (rx 1 _ rfl).1
    have y1 := (ry 1 _ rfl).1
    have x2 := (rx 2 _ rfl).1
    have y2 := (ry 2 _ rfl).1
    have x3 := (rx 3 _ rfl).1
    have y3 := (ry 3 _ rfl).1
    have x4 := (rx 4 _ rfl).1
    have y4 := (ry 4 _ rfl).1
    have x5 := (rx 5 _ rfl).1
    have y5 := (ry 5 _ rfl).1
    have lx := cell_lt x0
    have ly := cell_lt y0
    have heq := HEQ.out
    clear rx ry
    go_wp2_with fail
    refine HSP.out.mono ?_
    rintro e w9 ⟨rfl, hk9⟩
    have K9 := Lib.hid (K8.out.trans hk9)
    have q6 : samePB L L = true := by unfold samePB; simp
    rw [q6]
    clear hk9
    go_wp2_with fail
    go_ret
    exact ⟨rfl, K9.out⟩
end Go.Proofs.YtologmoanaccpaaGreatDoor
