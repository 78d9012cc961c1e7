/-
  the law MarkFree
-/
import Derived.Test.YtologmoanaccpaaGreatDoorZD
import Derived.Test.YtologmoanaccpaaGreatDoorBN
namespace Go.Proofs.YtologmoanaccpaaGreatDoor
set_option linter.all false
open Go.RowKit Go.Shelf

set_option maxRecDepth 100000 in
set_option maxHeartbeats 6400000 in
theorem markFree_any (A B : Option Addr) (n c m d : Nat) (ms : List Mk) (fs : List Fd) (day : Int) (w : World) (hs : SmA w A n c ms B m d fs) (hE : EnvT w) (hM : EnvM w) :
    Calls Tryz.prog 6 #[.agg #[.slice A n c, .slice B m d], .int .i64 day] w fun e w' => e = .returned (.bool true) ∧ Kept w w' := by
  obtain ⟨W0, hW0⟩ : ∃ W0, W0 = w.alloc (.cells #[.slice A n c, .slice B m d] 25) := ⟨_, rfl⟩
  have K0 : RowKit.Hid (Kept w W0) := Lib.hid (by rw [hW0]; exact (Kept.refl _).alloc _)
  have R0 : RowKit.Hid (RowC W0 w.heap.size [.slice A n c, .slice B m d]) := Lib.hid (by rw [hW0]; exact RowC.new w [.slice A n c, .slice B m d] 25)
  have HW := Lib.hid hW0
  have HMK : RowKit.Hid (∀ W, Kept w W → Calls Tryz.prog 19 #[] W fun e w' => e = .returned (.bool true) ∧ Kept W w') := Lib.hid (fun W hW => marked_any W (hE.kept hW) (hM.kept hW))
  have H27 : RowKit.Hid (∀ W, Kept w W → Calls Tryz.prog 27 #[.agg #[.slice A n c, .slice B m d], .slice none 0 0, .slice none 0 0] W (FewP W)) := Lib.hid (fun W hW => few0_any A B n c m d ms fs W (hs.kept hW))
  have H42 : RowKit.Hid (∀ W, Kept w W → Calls Tryz.prog 42 #[.agg #[.slice A n c, .slice B m d], .int .i64 day] W (FrV W ms fs day)) := Lib.hid (fun W hW => (free_any A B n c m d ms fs day W (hs.kept hW)).mono fun e w' h => FreP.get hs.1.2.2.2.1 hs.2.2.2.2.1 h)
  have H43 : RowKit.Hid (∀ W, Kept w W → Calls Tryz.prog 43 #[.agg #[.slice A n c, .slice B m d], .int .i64 day] W (FrV W ms fs day)) := Lib.hid (fun W hW => rfree_any A B n c m d ms fs day W (hs.kept hW))
  have a0 := (R0.out 0 _ rfl).1
  have a1 := (R0.out 1 _ rfl).1
  have la := cell_lt a0
  obtain ⟨⟨y, E⟩, hv⟩ : ∃ q, frV ms fs day = q := ⟨_, rfl⟩
  have HV := Lib.hid hv
  clear hW0 hs hE hM hv
  go_enter Tryz.func6, Tryz.ntmps6
  go_upto_region 1 with (fail)
  rw [← HW.out]
  go_wp2_with fail
  refine (H27.out _ K0.out).mono ?_
  rintro e w1 ⟨⟨b, rfl⟩, hk1⟩
  have K1 := Lib.hid (K0.out.trans hk1)
  have R1 := Lib.hid (R0.out.kept hk1)
  clear hk1 a0 a1 la
  cases b with
  | false =>
    go_wp2_with fail
    refine (HMK.out _ K1.out).mono ?_
    rintro e w2 ⟨rfl, hk2⟩
    have K2 := Lib.hid (K1.out.trans hk2)
    clear hk2
    go_wp2_with fail
    go_ret
    exact ⟨rfl, K2.out⟩
  | true =>
    have a0 := (R1.out 0 _ rfl).1
    have a1 := (R1.out 1 _ rfl).1
    have la := cell_lt a0
    go_wp2_with fail
    refine (H42.out _ K1.out).mono ?_
    rintro e w2 ⟨he, hk2⟩
    have he' := he
    clear he
    rw [HV.out] at he'
    obtain rfl : e = .returned (.tuple #[.agg #[.int .u8 y.s0, .int .u8 y.s1, .int .u8 y.s2, .int .u8 y.s3, .int .u8 y.s4, .int .u8 y.s5], .int .i64 E]) := he'
    have K2 := Lib.hid (K1.out.trans hk2)
    have R2 := Lib.hid (R1.out.kept hk2)
    clear hk2 a0 a1 la
    go_upto_region 4 with (fail)
    obtain ⟨Wa, hWa⟩ : ∃ Wa, Wa = w2.alloc (.cells #[.int .u8 y.s0, .int .u8 y.s1, .int .u8 y.s2, .int .u8 y.s3, .int .u8 y.s4, .int .u8 y.s5] 39) := ⟨_, rfl⟩
    have ka : Kept w2 Wa := by rw [hWa]; exact (Kept.refl _).alloc _
    have ra : RowC Wa w2.heap.size (sgV y) := by rw [hWa]; exact RowC.new w2 (sgV y) 39
    rw [← hWa]
    have KA := Lib.hid (K2.out.trans ka)
    have RA := Lib.hid ra
    have R3 := Lib.hid (R2.out.kept ka)
    clear hWa ka ra
    have a0 := (R3.out 0 _ rfl).1
    have a1 := (R3.out 1 _ rfl).1
    have la := cell_lt a0
    go_wp2_with fail
    refine (H43.out _ KA.out).mono ?_
    rintro e w3 ⟨he, hk3⟩
    have he' := he
    clear he
    rw [HV.out] at he'
    obtain rfl : e = .returned (.tuple #[.agg #[.int .u8 y.s0, .int .u8 y.s1, .int .u8 y.s2, .int .u8 y.s3, .int .u8 y.s4, .int .u8 y.s5], .int .i64 E]) := he'
    have KA3 := Lib.hid hk3
    clear hk3 a0 a1 la
    go_upto_region 5 with (fail)
    obtain ⟨Wb, hWb⟩ : ∃ Wb, Wb = w3.alloc (.cells #[.int .u8 y.s0, .int .u8 y.s1, .int .u8 y.s2, .int .u8 y.s3, .int .u8 y.s4, .int .u8 y.s5] 39) := ⟨_, rfl⟩
    have kb : Kept w3 Wb := by rw [hWb]; exact (Kept.refl _).alloc _
    have rb : RowC Wb w3.heap.size (sgV y) := by rw [hWb]; exact RowC.new w3 (sgV y) 39
    rw [← hWb]
    have KB := Lib.hid (KA.out.trans (KA3.out.trans kb))
    have RBB := Lib.hid rb
    have RAB := Lib.hid (RA.out.kept (KA3.out.trans kb))
    clear hWb kb rb
    have HEQ : RowKit.Hid (∀ W, (binOp BinOp.eql 39 (.agg #[.int .u8 y.s0, .int .u8 y.s1, .int .u8 y.s2, .int .u8 y.s3, .int .u8 y.s4, .int .u8 y.s5]) (.agg #[.int .u8 y.s0, .int .u8 y.s1, .int .u8 y.s2, .int .u8 y.s3, .int .u8 y.s4, .int .u8 y.s5])).run Tryz.prog W = .ok (.bool true) W) := Lib.hid (fun W => by
      rw [run_eql_struct]
      have h := eq39r y W
      unfold sgAgg at h
      rw [h]
      rfl)
    go_wp2_with fail
    refine (HMK.out _ KB.out).mono ?_
    rintro e w4 ⟨rfl, hk4⟩
    have K4 := Lib.hid (KB.out.trans hk4)
    have ra := RAB.out.kept hk4
    have rb := RBB.out.kept hk4
    clear hk4
    have x0 := (ra 0 _ rfl).1
    have y0 := (rb 0 _ rfl).1
    have x1 := (ra 1 _ rfl).1
    have y1 := (rb 1 _ rfl).1
    have x2 := (ra 2 _ rfl).1
    have y2 := (rb 2 _ rfl).1
    have x3 := (ra 3 _ rfl).1
    have y3 := (rb 3 _ rfl).1
    have x4 := (ra 4 _ rfl).1
    have y4 := (rb 4 _ rfl).1
    have x5 := (ra 5 _ rfl).1
    have y5 := (rb 5 _ rfl).1
    have lx := cell_lt x0
    have ly := cell_lt y0
    have heq := HEQ.out
    clear ra rb
    go_wp2_with fail
    go_ret
    exact ⟨rfl, K4.out⟩
end Go.Proofs.YtologmoanaccpaaGreatDoor
