/-
  the law MarkSights
-/
import Derived.Test.YtologmoanaccpaaGreatDoorZK
import Derived.Test.YtologmoanaccpaaGreatDoorZD
namespace Go.Proofs.YtologmoanaccpaaGreatDoor
set_option linter.all false
open Go.RowKit Go.Shelf

theorem OlP.get {w w' : World} {ms : List Mk} {fs : List Fd} {day : Int} {s : Sg} {e : Ending} (h : OlP w ms fs day s e w') : ∃ A n c, e = .returned (.tuple #[.slice A n c, .int .i64 (owE ms fs day s)]) ∧ IntA w' A n c (olL ms fs day s) ∧ Kept w w' := by
  obtain ⟨⟨v, ho, rfl⟩, hk⟩ := h
  unfold olL
  by_cases h0 : owE ms fs day s = 0
  · rw [if_pos h0] at ho ⊢
    have e1 : (bitsK (ownD ms fs day s) 64).flatMap nC = (lsI (ownD ms fs day s)).flatMap inC := by rw [flat_inC, lsI_nC]
    rw [e1, ← lsI_len] at ho
    obtain ⟨A, c, rfl, hia⟩ := own_ia ho rfl (by rw [lsI_len]; exact Nat.le_trans (bitsK_len _ _) (by omega))
    exact ⟨A, _, c, rfl, hia, hk⟩
  · rw [if_neg h0] at ho ⊢
    obtain ⟨A, c, rfl, hia⟩ := own_ia (l := []) ho rfl (by simp)
    exact ⟨A, _, c, rfl, hia, hk⟩
set_option maxRecDepth 100000 in
set_option maxHeartbeats 6400000 in
theorem markSights_any (A B : Option Addr) (n c m d : Nat) (ms : List Mk) (fs : List Fd) (day o : Int) (s : Sg) (w : World) (hs : SmA w A n c ms B m d fs) (hso : s.ok) (hE : EnvT w) (hM : EnvM w) :
    Calls Tryz.prog 4 #[.agg #[.slice A n c, .slice B m d], .int .i64 day, .agg #[.int .u8 s.s0, .int .u8 s.s1, .int .u8 s.s2, .int .u8 s.s3, .int .u8 s.s4, .int .u8 s.s5], .int .i64 o] w fun e w' => e = .returned (.bool true) ∧ Kept w w' := by
  obtain ⟨W0, hW0⟩ : ∃ W0, W0 = (w.alloc (.cells #[.slice A n c, .slice B m d] 25)).alloc (.cells #[.int .u8 s.s0, .int .u8 s.s1, .int .u8 s.s2, .int .u8 s.s3, .int .u8 s.s4, .int .u8 s.s5] 39) := ⟨_, rfl⟩
  have K0 : RowKit.Hid (Kept w W0) := Lib.hid (by rw [hW0]; exact ((Kept.refl _).alloc _).alloc _)
  have R0 : RowKit.Hid (RowC W0 w.heap.size [.slice A n c, .slice B m d]) := Lib.hid (by rw [hW0]; exact (RowC.new w [.slice A n c, .slice B m d] 25).kept ((Kept.refl _).alloc _))
  have RS : RowKit.Hid (RowC W0 (w.heap.size + 1) (sgV s)) := Lib.hid (by rw [hW0]; have h := RowC.new (w.alloc (.cells #[.slice A n c, .slice B m d] 25)) (sgV s) 39; rwa [World.size_alloc] at h)
  have HW := Lib.hid hW0
  have hok := hs.1.2.2.2.1
  have hfo := hs.2.2.2.2.1
  obtain ⟨⟨fb, E1⟩, hft⟩ : ∃ q, ftW ms fs day s o = q := ⟨_, rfl⟩
  obtain ⟨L, hL⟩ : ∃ q, olL ms fs day s = q := ⟨_, rfl⟩
  obtain ⟨E2, hE2⟩ : ∃ q, owE ms fs day s = q := ⟨_, rfl⟩
  have how := owW_eq (day := day) hok hfo hso
  rw [hL, hE2] at how
  obtain ⟨⟨v1, v2, v3⟩, hsu⟩ : ∃ q, suV L E2 = q := ⟨_, rfl⟩
  have HMK : RowKit.Hid (∀ W, Kept w W → Calls Tryz.prog 19 #[] W fun e w' => e = .returned (.bool true) ∧ Kept W w') := Lib.hid (fun W hW => marked_any W (hE.kept hW) (hM.kept hW))
  have H27 : RowKit.Hid (∀ W, Kept w W → Calls Tryz.prog 27 #[.agg #[.slice A n c, .slice B m d], .slice none 0 0, .slice none 0 0] W (FewP W)) := Lib.hid (fun W hW => few0_any A B n c m d ms fs W (hs.kept hW))
  have H28 : RowKit.Hid (∀ W, Kept w W → Calls Tryz.prog 28 #[.agg #[.slice A n c, .slice B m d], .int .i64 day, .agg #[.int .u8 s.s0, .int .u8 s.s1, .int .u8 s.s2, .int .u8 s.s3, .int .u8 s.s4, .int .u8 s.s5], .int .i64 o] W fun e w' => e = .returned (.tuple #[.bool fb, .int .i64 E1]) ∧ Kept W w') := Lib.hid (fun W hW => (fitsM_any A B n c m d ms fs day o s W (hs.kept hW) hso).mono fun e w' h => by have := FtP.get hok hfo hso h; rwa [hft] at this)
  have H29 : RowKit.Hid (∀ W, Kept w W → Calls Tryz.prog 29 #[.agg #[.slice A n c, .slice B m d], .int .i64 day, .agg #[.int .u8 s.s0, .int .u8 s.s1, .int .u8 s.s2, .int .u8 s.s3, .int .u8 s.s4, .int .u8 s.s5], .int .i64 o] W fun e w' => e = .returned (.tuple #[.bool fb, .int .i64 E1]) ∧ Kept W w') := Lib.hid (fun W hW => by have := rFits_any A B n c m d ms fs day o s hso W (hs.kept hW); rwa [hft] at this)
  have H30 : RowKit.Hid (∀ W, Kept w W → Calls Tryz.prog 30 #[.agg #[.slice A n c, .slice B m d], .int .i64 day, .agg #[.int .u8 s.s0, .int .u8 s.s1, .int .u8 s.s2, .int .u8 s.s3, .int .u8 s.s4, .int .u8 s.s5]] W fun e w' => ∃ A n c, e = .returned (.tuple #[.slice A n c, .int .i64 E2]) ∧ IntA w' A n c L ∧ Kept W w') := Lib.hid (fun W hW => (ownersL_any A B n c m d ms fs day s W (hs.kept hW) hso (hE.kept hW)).mono fun e w' h => by have := OlP.get h; rwa [hL, hE2] at this)
  have H31 : RowKit.Hid (∀ W, Kept w W → Calls Tryz.prog 31 #[.agg #[.slice A n c, .slice B m d], .int .i64 day, .agg #[.int .u8 s.s0, .int .u8 s.s1, .int .u8 s.s2, .int .u8 s.s3, .int .u8 s.s4, .int .u8 s.s5]] W fun e w' => ∃ A n c, e = .returned (.tuple #[.slice A n c, .int .i64 E2]) ∧ IntA w' A n c L ∧ Kept W w') := Lib.hid (fun W hW => (rOwners_any A B n c m d ms fs day s hso W (hs.kept hW)).mono fun e w' h => by unfold OwW at h; rwa [how] at h)
  have H32 : RowKit.Hid (∀ W, Kept w W → Calls Tryz.prog 32 #[.agg #[.slice A n c, .slice B m d], .int .i64 day, .agg #[.int .u8 s.s0, .int .u8 s.s1, .int .u8 s.s2, .int .u8 s.s3, .int .u8 s.s4, .int .u8 s.s5]] W fun e w' => e = .returned (.tuple #[.int .i64 v1, .bool v2, .int .i64 v3]) ∧ Kept W w') := Lib.hid (fun W hW => by have := sure_any A B n c m d ms fs day s hso W (hs.kept hW) (hE.kept hW); rw [hL, hE2, hsu] at this; exact this)
  have H33 : RowKit.Hid (∀ W, Kept w W → Calls Tryz.prog 33 #[.agg #[.slice A n c, .slice B m d], .int .i64 day, .agg #[.int .u8 s.s0, .int .u8 s.s1, .int .u8 s.s2, .int .u8 s.s3, .int .u8 s.s4, .int .u8 s.s5]] W fun e w' => e = .returned (.tuple #[.int .i64 v1, .bool v2, .int .i64 v3]) ∧ Kept W w') := Lib.hid (fun W hW => by have := rSure_any A B n c m d ms fs day s hso W (hs.kept hW); rw [how] at this; dsimp only at this; rw [hsu] at this; exact this)
  have a0 := (R0.out 0 _ rfl).1
  have a1 := (R0.out 1 _ rfl).1
  have la := cell_lt a0
  clear hW0 hs hE hM hok hfo hft hL hE2 how hsu hso
  go_enter Tryz.func4, Tryz.ntmps4
  go_upto_region 1 with (fail)
  rw [← HW.out]
  go_wp2_with fail
  refine (H27.out _ K0.out).mono ?_
  rintro e w1 ⟨⟨b, rfl⟩, hk1⟩
  have K1 := Lib.hid (K0.out.trans hk1)
  have R1 := Lib.hid (R0.out.kept hk1)
  have S1 := Lib.hid (RS.out.kept hk1)
  clear hk1 a0 a1 la
  cases b with
  | false =>
    go_wp2_with fail
    refine (HMK.out _ K1.out).mono ?_
    rintro e w2 ⟨rfl, hk2⟩
    have K2 := Lib.hid (K1.out.trans hk2)
    clear hk2
    go_wp2_with fail
    go_ret
    exact ⟨rfl, K2.out⟩
  | true =>
    have a0 := (R1.out 0 _ rfl).1
    have a1 := (R1.out 1 _ rfl).1
    have la := cell_lt a0
    have s0 := (S1.out 0 _ rfl).1
    have s1 := (S1.out 1 _ rfl).1
    have s2 := (S1.out 2 _ rfl).1
    have s3 := (S1.out 3 _ rfl).1
    have s4 := (S1.out 4 _ rfl).1
    have s5 := (S1.out 5 _ rfl).1
    have ls := cell_lt s0
    go_wp2_with fail
    refine (H28.out _ K1.out).mono ?_
    rintro e w2 ⟨rfl, hk2⟩
    have K2 := Lib.hid (K1.out.trans hk2)
    have R2 := Lib.hid (R1.out.kept hk2)
    have S2 := Lib.hid (S1.out.kept hk2)
    clear hk2
    clear a0 a1 la s0 s1 s2 s3 s4 s5 ls
    have a0 := (R2.out 0 _ rfl).1
    have a1 := (R2.out 1 _ rfl).1
    have la := cell_lt a0
    have s0 := (S2.out 0 _ rfl).1
    have s1 := (S2.out 1 _ rfl).1
    have s2 := (S2.out 2 _ rfl).1
    have s3 := (S2.out 3 _ rfl).1
    have s4 := (S2.out 4 _ rfl).1
    have s5 := (S2.out 5 _ rfl).1
    have ls := cell_lt s0
    go_wp2_with fail
    refine (H29.out _ K2.out).mono ?_
    rintro e w3 ⟨rfl, hk3⟩
    have K3 := Lib.hid (K2.out.trans hk3)
    have R3 := Lib.hid (R2.out.kept hk3)
    have S3 := Lib.hid (S2.out.kept hk3)
    clear hk3
    clear a0 a1 la s0 s1 s2 s3 s4 s5 ls
    have a0 := (R3.out 0 _ rfl).1
    have a1 := (R3.out 1 _ rfl).1
    have la := cell_lt a0
    have s0 := (S3.out 0 _ rfl).1
    have s1 := (S3.out 1 _ rfl).1
    have s2 := (S3.out 2 _ rfl).1
    have s3 := (S3.out 3 _ rfl).1
    have s4 := (S3.out 4 _ rfl).1
    have s5 := (S3.out 5 _ rfl).1
    have ls := cell_lt s0
    go_wp2_with fail
    refine (H30.out _ K3.out).mono ?_
    rintro e w4 ⟨A1, n1, c1, rfl, hia1, hk4⟩
    have IA1 := Lib.hid hia1
    clear hia1
    have K4 := Lib.hid (K3.out.trans hk4)
    have R4 := Lib.hid (R3.out.kept hk4)
    have S4 := Lib.hid (S3.out.kept hk4)
    clear hk4
    clear a0 a1 la s0 s1 s2 s3 s4 s5 ls
    have a0 := (R4.out 0 _ rfl).1
    have a1 := (R4.out 1 _ rfl).1
    have la := cell_lt a0
    have s0 := (S4.out 0 _ rfl).1
    have s1 := (S4.out 1 _ rfl).1
    have s2 := (S4.out 2 _ rfl).1
    have s3 := (S4.out 3 _ rfl).1
    have s4 := (S4.out 4 _ rfl).1
    have s5 := (S4.out 5 _ rfl).1
    have ls := cell_lt s0
    go_wp2_with fail
    refine (H31.out _ K4.out).mono ?_
    rintro e w5 ⟨A2, n2, c2, rfl, hia2, hk5⟩
    have IA2 := Lib.hid hia2
    clear hia2
    have K5 := Lib.hid (K4.out.trans hk5)
    have R5 := Lib.hid (R4.out.kept hk5)
    have S5 := Lib.hid (S4.out.kept hk5)
    have IA1 := Lib.hid (IA1.out.kept hk5)
    clear hk5
    clear a0 a1 la s0 s1 s2 s3 s4 s5 ls
    have a0 := (R5.out 0 _ rfl).1
    have a1 := (R5.out 1 _ rfl).1
    have la := cell_lt a0
    have s0 := (S5.out 0 _ rfl).1
    have s1 := (S5.out 1 _ rfl).1
    have s2 := (S5.out 2 _ rfl).1
    have s3 := (S5.out 3 _ rfl).1
    have s4 := (S5.out 4 _ rfl).1
    have s5 := (S5.out 5 _ rfl).1
    have ls := cell_lt s0
    go_wp2_with fail
    refine (H32.out _ K5.out).mono ?_
    rintro e w6 ⟨rfl, hk6⟩
    have K6 := Lib.hid (K5.out.trans hk6)
    have R6 := Lib.hid (R5.out.kept hk6)
    have S6 := Lib.hid (S5.out.kept hk6)
    have IA1 := Lib.hid (IA1.out.kept hk6)
    have IA2 := Lib.hid (IA2.out.kept hk6)
    clear hk6
    clear a0 a1 la s0 s1 s2 s3 s4 s5 ls
    have a0 := (R6.out 0 _ rfl).1
    have a1 := (R6.out 1 _ rfl).1
    have la := cell_lt a0
    have s0 := (S6.out 0 _ rfl).1
    have s1 := (S6.out 1 _ rfl).1
    have s2 := (S6.out 2 _ rfl).1
    have s3 := (S6.out 3 _ rfl).1
    have s4 := (S6.out 4 _ rfl).1
    have s5 := (S6.out 5 _ rfl).1
    have ls := cell_lt s0
    go_wp2_with fail
    refine (H33.out _ K6.out).mono ?_
    rintro e w7 ⟨rfl, hk7⟩
    have K7 := Lib.hid (K6.out.trans hk7)
    have R7 := Lib.hid (R6.out.kept hk7)
    have S7 := Lib.hid (S6.out.kept hk7)
    have IA1 := Lib.hid (IA1.out.kept hk7)
    have IA2 := Lib.hid (IA2.out.kept hk7)
    clear hk7
    clear a0 a1 la s0 s1 s2 s3 s4 s5 ls
    go_wp2_with fail
    refine (HMK.out _ K7.out).mono ?_
    rintro e w8 ⟨rfl, hk8⟩
    have K8 := Lib.hid (K7.out.trans hk8)
    have HSI := Lib.hid (sameInts_any A1 n1 c1 L A2 n2 c2 L w8 (IA1.out.kept hk8) (IA2.out.kept hk8))
    rw [show sameB L L = true by simp [sameB]] at HSI
    clear hk8
    cases fb <;> cases v2 <;>
    · go_wp2_with fail
      refine HSI.out.mono ?_
      rintro e w9 ⟨rfl, hk9⟩
      have K9 := Lib.hid (K8.out.trans hk9)
      clear hk9
      go_wp2_with fail
      go_ret
      exact ⟨rfl, K9.out⟩
end Go.Proofs.YtologmoanaccpaaGreatDoor
