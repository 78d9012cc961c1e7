/-
  the law MarkSmits
-/
import Derived.Test.YtologmoanaccpaaGreatDoorYG
import Derived.Test.YtologmoanaccpaaGreatDoorBN
import Derived.Deep.DeepCutAuto
namespace Go.Proofs.YtologmoanaccpaaGreatDoor
set_option linter.all false
open Go.RowKit Go.Shelf

def inL (ms : List Mk) (fs : List Fd) (day : Int) : List Mk := if inE ms fs day = 0 then rfL ms day 40 else []
theorem InP.get {w w' : World} {ms : List Mk} {fs : List Fd} {day : Int} {e : Ending} (h : InP w ms fs day e w') : ∃ A n c, e = .returned (.tuple #[.slice A n c, .int .i64 (inE ms fs day)]) ∧ SlA mkC 9 Mk.ok w' A n c (inL ms fs day) ∧ Kept w w' := by
  obtain ⟨⟨h0, rfl⟩ | ⟨h0, A, n, c, rfl, hs⟩, hk⟩ := h
  · refine ⟨none, 0, 0, rfl, ?_, hk⟩
    unfold inL
    rw [if_neg h0]
    exact ⟨rfl, by omega, by omega, (fun m hm => by cases hm), fun hp => by omega⟩
  · refine ⟨A, n, c, by rw [h0], ?_, hk⟩
    unfold inL
    rw [if_pos h0]
    exact hs
set_option maxRecDepth 100000 in
set_option maxHeartbeats 6400000 in
theorem markSmits_any (A B : Option Addr) (n c m d : Nat) (ms : List Mk) (fs : List Fd) (day o : Int) (w : World) (hs : SmA w A n c ms B m d fs) (hE : EnvT w) (hM : EnvM w) :
    Calls Tryz.prog 3 #[.agg #[.slice A n c, .slice B m d], .int .i64 day, .int .i64 o] w fun e w' => e = .returned (.bool true) ∧ Kept w w' := by
  obtain ⟨W0, hW0⟩ : ∃ W0, W0 = w.alloc (.cells #[.slice A n c, .slice B m d] 25) := ⟨_, rfl⟩
  have K0 : RowKit.Hid (Kept w W0) := Lib.hid (by rw [hW0]; exact (Kept.refl _).alloc _)
  have R0 : RowKit.Hid (RowC W0 w.heap.size [.slice A n c, .slice B m d]) := Lib.hid (by rw [hW0]; exact RowC.new w [.slice A n c, .slice B m d] 25)
  have HW := Lib.hid hW0
  have HMK : RowKit.Hid (∀ W, Kept w W → Calls Tryz.prog 19 #[] W fun e w' => e = .returned (.bool true) ∧ Kept W w') := Lib.hid (fun W hW => marked_any W (hE.kept hW) (hM.kept hW))
  have H20 : RowKit.Hid (∀ W, Kept w W → Calls Tryz.prog 20 #[.agg #[.slice A n c, .slice B m d], .int .i64 day] W (InP W ms fs day)) := Lib.hid (fun W hW => inForceX_any A B n c m d ms fs day W (hs.kept hW))
  have H21 : RowKit.Hid (∀ W, Kept w W → Calls Tryz.prog 21 #[.agg #[.slice A n c, .slice B m d], .int .i64 day] W (InP W ms fs day)) := Lib.hid (fun W hW => rinForce_any A B n c m d ms fs day W (hs.kept hW))
  have H22 : RowKit.Hid (∀ W, Kept w W → Calls Tryz.prog 22 #[.agg #[.slice A n c, .slice B m d], .int .i64 day, .int .i64 o] W (MoP W ms fs day o)) := Lib.hid (fun W hW => markOfX_any A B n c m d ms fs day o W (hs.kept hW))
  have H23 : RowKit.Hid (∀ W, Kept w W → Calls Tryz.prog 23 #[.agg #[.slice A n c, .slice B m d], .int .i64 day, .int .i64 o] W (MoP W ms fs day o)) := Lib.hid (fun W hW => rmarkOf_any A B n c m d ms fs day o W (hs.kept hW))
  obtain ⟨ES, hES⟩ : ∃ E, smE ms fs = E := ⟨_, rfl⟩
  have H25 : RowKit.Hid (∀ W, Kept w W → Calls Tryz.prog 25 #[.agg #[.slice A n c, .slice B m d]] W fun e w' => e = .returned (.int .i64 ES) ∧ Kept W w') := Lib.hid (fun W hW => by rw [← hES]; exact checkSmits_any A B n c m d ms fs W (hs.kept hW))
  have H26 : RowKit.Hid (∀ W, Kept w W → Calls Tryz.prog 26 #[.agg #[.slice A n c, .slice B m d]] W fun e w' => e = .returned (.int .i64 ES) ∧ Kept W w') := Lib.hid (fun W hW => by rw [← hES]; exact rcheckSmits_any A B n c m d ms fs W (hs.kept hW))
  have hnc := hs.1.2.1
  have hcm := hs.1.2.2.1
  have hmc := hs.2.2.1
  have hdm := hs.2.2.2.1
  have a0 := (R0.out 0 _ rfl).1
  have a1 := (R0.out 1 _ rfl).1
  have la := cell_lt a0
  clear hW0 hs hE hM hES
  go_enter Tryz.func3, Tryz.ntmps3
  go_upto_region 1 with (fail)
  rw [← HW.out]
  by_cases g1 : 110 < n
  · go_wp2_with fail
    refine (HMK.out _ K0.out).mono ?_
    rintro e w1 ⟨rfl, hk1⟩
    have K1 := Lib.hid (K0.out.trans hk1)
    clear hk1
    go_wp2_with fail
    go_ret
    exact ⟨rfl, K1.out⟩
  by_cases g2 : 30 < m
  · go_wp2_with fail
    refine (HMK.out _ K0.out).mono ?_
    rintro e w1 ⟨rfl, hk1⟩
    have K1 := Lib.hid (K0.out.trans hk1)
    clear hk1
    go_wp2_with fail
    go_ret
    exact ⟨rfl, K1.out⟩
  go_upto_region 3 with (fail)
  clear g1 g2
  go_wp2_with fail
  refine (H20.out _ K0.out).mono ?_
  rintro e w1 hp
  obtain ⟨A5, n5, c5, rfl, hs5, hk1⟩ := hp.get
  have HS5 := Lib.hid hs5
  have K1 := Lib.hid (K0.out.trans hk1)
  have R1 := Lib.hid (R0.out.kept hk1)
  obtain ⟨E1, hE1⟩ : ∃ E, inE ms fs day = E := ⟨_, rfl⟩
  rw [hE1]
  have HE1 := Lib.hid hE1
  clear hp hs5 hk1 hE1 a0 a1 la
  have a0 := (R1.out 0 _ rfl).1
  have a1 := (R1.out 1 _ rfl).1
  have la := cell_lt a0
  go_wp2_with fail
  refine (H21.out _ K1.out).mono ?_
  rintro e w2 hp
  obtain ⟨A6, n6, c6, rfl, hs6, hk2⟩ := hp.get
  have HS6 := Lib.hid hs6
  have HS52 := Lib.hid (HS5.out.kept hk2)
  have K2 := Lib.hid (K1.out.trans hk2)
  have R2 := Lib.hid (R1.out.kept hk2)
  rw [HE1.out]
  clear hp hs6 hk2 a0 a1 la
  have a0 := (R2.out 0 _ rfl).1
  have a1 := (R2.out 1 _ rfl).1
  have la := cell_lt a0
  obtain ⟨⟨mm, E2⟩, hmv⟩ : ∃ q, moV ms fs day o = q := ⟨_, rfl⟩
  have HMV := Lib.hid hmv
  clear hmv
  go_wp2_with fail
  refine (H22.out _ K2.out).mono ?_
  rintro e w3 ⟨he, hk3⟩
  have he' := he
  clear he
  rw [HMV.out] at he'
  obtain rfl : e = .returned (.tuple #[.agg #[.int .i64 mm.own, .int .i64 mm.frm, .int .i64 mm.unt, .int .u8 mm.sg.s0, .int .u8 mm.sg.s1, .int .u8 mm.sg.s2, .int .u8 mm.sg.s3, .int .u8 mm.sg.s4, .int .u8 mm.sg.s5], .int .i64 E2]) := he'
  have K3 := Lib.hid (K2.out.trans hk3)
  have K23 := Lib.hid hk3
  clear hk3 a0 a1 la
  go_upto_region 6 with (fail)
  obtain ⟨Wa, hWa⟩ : ∃ Wa, Wa = w3.alloc (.cells #[.int .i64 mm.own, .int .i64 mm.frm, .int .i64 mm.unt, .int .u8 mm.sg.s0, .int .u8 mm.sg.s1, .int .u8 mm.sg.s2, .int .u8 mm.sg.s3, .int .u8 mm.sg.s4, .int .u8 mm.sg.s5] 32) := ⟨_, rfl⟩
  have ka : Kept w3 Wa := by rw [hWa]; exact (Kept.refl _).alloc _
  have ra : RowC Wa w3.heap.size (mkC mm) := by rw [hWa]; exact RowC.new w3 (mkC mm) 32
  rw [← hWa]
  have KA := Lib.hid (K3.out.trans ka)
  have KA2 := Lib.hid (K23.out.trans ka)
  have RA := Lib.hid ra
  have R3 := Lib.hid (R2.out.kept KA2.out)
  clear hWa ka ra
  have a0 := (R3.out 0 _ rfl).1
  have a1 := (R3.out 1 _ rfl).1
  have la := cell_lt a0
  go_wp2_with fail
  refine (H23.out _ KA.out).mono ?_
  rintro e w4 ⟨he, hk4⟩
  have he' := he
  clear he
  rw [HMV.out] at he'
  obtain rfl : e = .returned (.tuple #[.agg #[.int .i64 mm.own, .int .i64 mm.frm, .int .i64 mm.unt, .int .u8 mm.sg.s0, .int .u8 mm.sg.s1, .int .u8 mm.sg.s2, .int .u8 mm.sg.s3, .int .u8 mm.sg.s4, .int .u8 mm.sg.s5], .int .i64 E2]) := he'
  have KA4 := Lib.hid hk4
  clear hk4 a0 a1 la
  go_upto_region 7 with (fail)
  obtain ⟨Wb, hWb⟩ : ∃ Wb, Wb = w4.alloc (.cells #[.int .i64 mm.own, .int .i64 mm.frm, .int .i64 mm.unt, .int .u8 mm.sg.s0, .int .u8 mm.sg.s1, .int .u8 mm.sg.s2, .int .u8 mm.sg.s3, .int .u8 mm.sg.s4, .int .u8 mm.sg.s5] 32) := ⟨_, rfl⟩
  have kb : Kept w4 Wb := by rw [hWb]; exact (Kept.refl _).alloc _
  have rb : RowC Wb w4.heap.size (mkC mm) := by rw [hWb]; exact RowC.new w4 (mkC mm) 32
  rw [← hWb]
  have KB := Lib.hid (KA.out.trans (KA4.out.trans kb))
  have RBB := Lib.hid rb
  have RAB := Lib.hid (RA.out.kept (KA4.out.trans kb))
  have R0B := Lib.hid (R3.out.kept (KA4.out.trans kb))
  have S5B := Lib.hid (HS52.out.kept (KA2.out.trans (KA4.out.trans kb)))
  have S6B := Lib.hid (HS6.out.kept (KA2.out.trans (KA4.out.trans kb)))
  clear hWb kb rb
  have HEQ : RowKit.Hid (∀ W, (binOp BinOp.eql 32 (.agg #[.int .i64 mm.own, .int .i64 mm.frm, .int .i64 mm.unt, .int .u8 mm.sg.s0, .int .u8 mm.sg.s1, .int .u8 mm.sg.s2, .int .u8 mm.sg.s3, .int .u8 mm.sg.s4, .int .u8 mm.sg.s5]) (.agg #[.int .i64 mm.own, .int .i64 mm.frm, .int .i64 mm.unt, .int .u8 mm.sg.s0, .int .u8 mm.sg.s1, .int .u8 mm.sg.s2, .int .u8 mm.sg.s3, .int .u8 mm.sg.s4, .int .u8 mm.sg.s5])).run Tryz.prog W = .ok (.bool true) W) := Lib.hid (fun W => by
    rw [run_eql_struct]
    have h := eq32r mm W
    unfold mkC at h
    rw [h]
    rfl)
  have H24 : RowKit.Hid (∀ W, Kept Wb W → Calls Tryz.prog 24 #[.slice A5 n5 c5, .slice A6 n6 c6] W fun e w' => e = .returned (.bool true) ∧ Kept W w') := Lib.hid (fun W hW => sameMarks_refl A5 n5 c5 A6 n6 c6 _ W (S5B.out.kept hW) (S6B.out.kept hW))
  have J19 : RowKit.Hid (∀ W, Kept Wb W → Calls Tryz.prog 19 #[] W fun e w' => e = .returned (.bool true) ∧ Kept W w') := Lib.hid (fun W hW => HMK.out W (KB.out.trans hW))
  have J25 : RowKit.Hid (∀ W, Kept Wb W → Calls Tryz.prog 25 #[.agg #[.slice A n c, .slice B m d]] W fun e w' => e = .returned (.int .i64 ES) ∧ Kept W w') := Lib.hid (fun W hW => H25.out W (KB.out.trans hW))
  have J26 : RowKit.Hid (∀ W, Kept Wb W → Calls Tryz.prog 26 #[.agg #[.slice A n c, .slice B m d]] W fun e w' => e = .returned (.int .i64 ES) ∧ Kept W w') := Lib.hid (fun W hW => H26.out W (KB.out.trans hW))
  have SB : RowKit.Hid (∀ W, Kept Wb W → W.cell? ⟨w.heap.size, 0, none⟩ = some (.slice A n c) ∧ W.cell? ⟨w.heap.size, 1, none⟩ = some (.slice B m d) ∧ RowC W w3.heap.size (mkC mm) ∧ RowC W w4.heap.size (mkC mm) ∧ Kept Wb W) := Lib.hid (fun W hW => ⟨(R0B.out.kept hW 0 _ rfl).1, (R0B.out.kept hW 1 _ rfl).1, RAB.out.kept hW, RBB.out.kept hW, hW⟩)
  have kd := (Kept.refl Wb).drew
  have SC : RowKit.Hid (∀ W, Kept Wb W → W.cell? ⟨w.heap.size, 0, none⟩ = some (.slice A n c) ∧ W.cell? ⟨w.heap.size, 1, none⟩ = some (.slice B m d) ∧ W.cell? ⟨w3.heap.size, 0, none⟩ = some (.int .i64 mm.own) ∧ W.cell? ⟨w3.heap.size, 1, none⟩ = some (.int .i64 mm.frm) ∧ W.cell? ⟨w3.heap.size, 2, none⟩ = some (.int .i64 mm.unt) ∧ W.cell? ⟨w3.heap.size, 3, none⟩ = some (.int .u8 mm.sg.s0) ∧ W.cell? ⟨w3.heap.size, 4, none⟩ = some (.int .u8 mm.sg.s1) ∧ W.cell? ⟨w3.heap.size, 5, none⟩ = some (.int .u8 mm.sg.s2) ∧ W.cell? ⟨w3.heap.size, 6, none⟩ = some (.int .u8 mm.sg.s3) ∧ W.cell? ⟨w3.heap.size, 7, none⟩ = some (.int .u8 mm.sg.s4) ∧ W.cell? ⟨w3.heap.size, 8, none⟩ = some (.int .u8 mm.sg.s5) ∧ W.cell? ⟨w4.heap.size, 0, none⟩ = some (.int .i64 mm.own) ∧ W.cell? ⟨w4.heap.size, 1, none⟩ = some (.int .i64 mm.frm) ∧ W.cell? ⟨w4.heap.size, 2, none⟩ = some (.int .i64 mm.unt) ∧ W.cell? ⟨w4.heap.size, 3, none⟩ = some (.int .u8 mm.sg.s0) ∧ W.cell? ⟨w4.heap.size, 4, none⟩ = some (.int .u8 mm.sg.s1) ∧ W.cell? ⟨w4.heap.size, 5, none⟩ = some (.int .u8 mm.sg.s2) ∧ W.cell? ⟨w4.heap.size, 6, none⟩ = some (.int .u8 mm.sg.s3) ∧ W.cell? ⟨w4.heap.size, 7, none⟩ = some (.int .u8 mm.sg.s4) ∧ W.cell? ⟨w4.heap.size, 8, none⟩ = some (.int .u8 mm.sg.s5) ∧ Kept Wb W) := Lib.hid (fun W hW => by
    obtain ⟨h0, h1, ha, hb, hk⟩ := SB.out W hW
    exact ⟨h0, h1, (ha 0 _ rfl).1, (ha 1 _ rfl).1, (ha 2 _ rfl).1, (ha 3 _ rfl).1, (ha 4 _ rfl).1, (ha 5 _ rfl).1, (ha 6 _ rfl).1, (ha 7 _ rfl).1, (ha 8 _ rfl).1, (hb 0 _ rfl).1, (hb 1 _ rfl).1, (hb 2 _ rfl).1, (hb 3 _ rfl).1, (hb 4 _ rfl).1, (hb 5 _ rfl).1, (hb 6 _ rfl).1, (hb 7 _ rfl).1, (hb 8 _ rfl).1, hk⟩)
  have heq := HEQ.out
  go_cut [6] (fun s6 wx => s6 = .bool true ∧ Kept Wb wx)
  case first =>
    go_region_held3 (fun W => W.cell? ⟨w.heap.size, 0, none⟩ = some (.slice A n c) ∧ W.cell? ⟨w.heap.size, 1, none⟩ = some (.slice B m d) ∧ W.cell? ⟨w3.heap.size, 0, none⟩ = some (.int .i64 mm.own) ∧ W.cell? ⟨w3.heap.size, 1, none⟩ = some (.int .i64 mm.frm) ∧ W.cell? ⟨w3.heap.size, 2, none⟩ = some (.int .i64 mm.unt) ∧ W.cell? ⟨w3.heap.size, 3, none⟩ = some (.int .u8 mm.sg.s0) ∧ W.cell? ⟨w3.heap.size, 4, none⟩ = some (.int .u8 mm.sg.s1) ∧ W.cell? ⟨w3.heap.size, 5, none⟩ = some (.int .u8 mm.sg.s2) ∧ W.cell? ⟨w3.heap.size, 6, none⟩ = some (.int .u8 mm.sg.s3) ∧ W.cell? ⟨w3.heap.size, 7, none⟩ = some (.int .u8 mm.sg.s4) ∧ W.cell? ⟨w3.heap.size, 8, none⟩ = some (.int .u8 mm.sg.s5) ∧ W.cell? ⟨w4.heap.size, 0, none⟩ = some (.int .i64 mm.own) ∧ W.cell? ⟨w4.heap.size, 1, none⟩ = some (.int .i64 mm.frm) ∧ W.cell? ⟨w4.heap.size, 2, none⟩ = some (.int .i64 mm.unt) ∧ W.cell? ⟨w4.heap.size, 3, none⟩ = some (.int .u8 mm.sg.s0) ∧ W.cell? ⟨w4.heap.size, 4, none⟩ = some (.int .u8 mm.sg.s1) ∧ W.cell? ⟨w4.heap.size, 5, none⟩ = some (.int .u8 mm.sg.s2) ∧ W.cell? ⟨w4.heap.size, 6, none⟩ = some (.int .u8 mm.sg.s3) ∧ W.cell? ⟨w4.heap.size, 7, none⟩ = some (.int .u8 mm.sg.s4) ∧ W.cell? ⟨w4.heap.size, 8, none⟩ = some (.int .u8 mm.sg.s5) ∧ Kept Wb W)
      (first
        | (with_reducible exact SC.out _ kd)
        | (with_reducible exact SC.out _ kk19)
        | (with_reducible exact SC.out _ kk24)
        | (with_reducible exact SC.out _ kk25)
        | (with_reducible exact SC.out _ kk26)
        | fail)
      (first
        | (go_at_call 19; refine (J19.out _ kd).mono ?_; rintro e w9 ⟨rfl, hk9⟩; have kk19 : Kept Wb w9 := (by with_reducible exact kd.trans hk9))
        | (go_at_call 24; refine (H24.out _ kk19).mono ?_; rintro e w10 ⟨rfl, hk10⟩; have kk24 : Kept Wb w10 := (by with_reducible exact kk19.trans hk10))
        | (go_at_call 25; first
            | (with_reducible refine (J25.out _ kk24).mono ?_; rintro e w11 ⟨rfl, hk11⟩; have kk25 : Kept Wb w11 := (by with_reducible exact kk24.trans hk11))
            | (with_reducible refine (J25.out _ kk26).mono ?_; rintro e w11 ⟨rfl, hk11⟩; have kk25 : Kept Wb w11 := (by with_reducible exact kk26.trans hk11)))
        | (go_at_call 26; first
            | (with_reducible refine (J26.out _ kk24).mono ?_; rintro e w12 ⟨rfl, hk12⟩; have kk26 : Kept Wb w12 := (by with_reducible exact kk24.trans hk12))
            | (with_reducible refine (J26.out _ kk25).mono ?_; rintro e w12 ⟨rfl, hk12⟩; have kk26 : Kept Wb w12 := (by with_reducible exact kk25.trans hk12)))
        | fail)
    all_goals go_wp2
    all_goals go_meet
    all_goals first | exact ⟨rfl, kk25⟩ | exact ⟨rfl, kk26⟩
  case rest =>
    obtain ⟨rfl, hkc⟩ := hcut
    have HKC := Lib.hid (KB.out.trans hkc)
    clear hkc
    go_wp2_with fail
    go_ret
    exact ⟨rfl, HKC.out⟩
end Go.Proofs.YtologmoanaccpaaGreatDoor
