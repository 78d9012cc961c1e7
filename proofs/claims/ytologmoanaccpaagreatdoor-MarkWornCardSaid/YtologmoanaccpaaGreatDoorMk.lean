/-
  mark: CheckSmits
-/
import Derived.Test.YtologmoanaccpaaGreatDoorMj
namespace Go.Proofs.YtologmoanaccpaaGreatDoor
set_option linter.all false
open Go Go.RowKit

def smE (ms : List Mk) (fs : List Fd) : Int := if 100 < ms.length ∨ 20 < fs.length then 2 else if (ms.all markB && fs.all fadeB) = true then (if (repB fs || clashB ms) = true then 6 else 0) else 1
/-- smits in memory -/
def SmA (w : World) (A : Option Addr) (n c : Nat) (ms : List Mk) (B : Option Addr) (m d : Nat) (fs : List Fd) : Prop := SlA mkC 9 Mk.ok w A n c ms ∧ SlA fdC 2 Fd.ok w B m d fs
theorem SmA.kept {w w' : World} {A B : Option Addr} {n c m d : Nat} {ms : List Mk} {fs : List Fd} (h : SmA w A n c ms B m d fs) (hk : Kept w w') : SmA w' A n c ms B m d fs := ⟨h.1.kept hk, h.2.kept hk⟩
set_option maxRecDepth 100000 in
set_option maxHeartbeats 6400000 in
theorem checkSmits_any (A B : Option Addr) (n c m d : Nat) (ms : List Mk) (fs : List Fd) (w : World) (hs : SmA w A n c ms B m d fs) :
    Calls Tryz.prog 25 #[.agg #[.slice A n c, .slice B m d]] w fun e w' => e = .returned (.int .i64 (smE ms fs)) ∧ Kept w w' := by
  obtain ⟨W0, hW0⟩ : ∃ W0, W0 = w.alloc (.cells #[.slice A n c, .slice B m d] 25) := ⟨_, rfl⟩
  have K0 : RowKit.Hid (Kept w W0) := Lib.hid (by rw [hW0]; exact (Kept.refl _).alloc _)
  have R0 : RowKit.Hid (RowC W0 w.heap.size [.slice A n c, .slice B m d]) := Lib.hid (by rw [hW0]; exact RowC.new w [.slice A n c, .slice B m d] 25)
  have HW := Lib.hid hW0
  have HS := Lib.hid (hs.kept K0.out)
  have hl1 := Lib.hid hs.1.1
  have hl2 := Lib.hid hs.2.1
  have hnc := hs.1.2.1
  have hcm := hs.1.2.2.1
  have hmd := hs.2.2.1
  have hdm := hs.2.2.2.1
  obtain ⟨b1, hb1⟩ : ∃ b, ms.all markB = b := ⟨_, rfl⟩
  obtain ⟨b2, hb2⟩ : ∃ b, fs.all fadeB = b := ⟨_, rfl⟩
  obtain ⟨b3, hb3⟩ : ∃ b, repB fs = b := ⟨_, rfl⟩
  obtain ⟨b4, hb4⟩ : ∃ b, clashB ms = b := ⟨_, rfl⟩
  have HB : RowKit.Hid (smE ms fs = if 100 < n ∨ 20 < m then 2 else if (b1 && b2) = true then (if (b3 || b4) = true then 6 else 0) else 1) := Lib.hid (by unfold smE; rw [hl1.out, hl2.out, hb1, hb2, hb3, hb4])
  have H1 : RowKit.Hid (∀ W, Kept W0 W → Calls Tryz.prog 81 #[.slice A n c, .func (.func 82) #[] #[]] W fun e w' => e = .returned (.bool b1) ∧ Kept W w') := Lib.hid (fun W hW => by rw [← hb1]; exact every_mk 82 #[] markB e82 A n c ms W (HS.out.1.kept hW) (pred82 W))
  have H2 : RowKit.Hid (∀ W, Kept W0 W → Calls Tryz.prog 83 #[.slice B m d, .func (.func 84) #[] #[]] W fun e w' => e = .returned (.bool b2) ∧ Kept W w') := Lib.hid (fun W hW => by rw [← hb2]; exact every_fd 84 #[] fadeB e84 B m d fs W (HS.out.2.kept hW) (pred84 W))
  have H3 : RowKit.Hid (∀ W, Kept W0 W → Calls Tryz.prog 85 #[.slice B m d] W fun e w' => e = .returned (.bool b3) ∧ Kept W w') := Lib.hid (fun W hW => by rw [← hb3]; exact repeats_fd B m d fs W (HS.out.2.kept hW))
  have H4 : RowKit.Hid (n ≤ 1000 → ∀ W, Kept W0 W → Calls Tryz.prog 86 #[.slice A n c] W fun e w' => e = .returned (.bool b4) ∧ Kept W w') := Lib.hid (fun hn W hW => by rw [← hb4]; exact clashing_any A n c ms W hn (HS.out.1.kept hW))
  clear hb1 hb2 hb3 hb4 hW0 hs
  by_cases h1 : 100 < n
  · have g1 : (100 : Int) < (n : Int) := by omega
    have a0 := (R0.out 0 _ rfl).1
    have a1 := (R0.out 1 _ rfl).1
    have la := cell_lt a0
    go_enter Tryz.func25, Tryz.ntmps25
    go_upto_region 1 with (fail)
    rw [← HW.out]
    go_wp2
    go_ret
    exact ⟨ret_int (by rw [HB.out]; rw [if_pos (.inl h1)]), K0.out⟩
  have g1 : ¬ (100 : Int) < (n : Int) := by omega
  by_cases h2 : 20 < m
  · have g2 : (20 : Int) < (m : Int) := by omega
    have a0 := (R0.out 0 _ rfl).1
    have a1 := (R0.out 1 _ rfl).1
    have la := cell_lt a0
    go_enter Tryz.func25, Tryz.ntmps25
    go_upto_region 1 with (fail)
    rw [← HW.out]
    go_wp2
    go_ret
    exact ⟨ret_int (by rw [HB.out]; rw [if_pos (.inr h2)]), K0.out⟩
  have g2 : ¬ (20 : Int) < (m : Int) := by omega
  have HN : RowKit.Hid (¬ (100 < n ∨ 20 < m)) := Lib.hid (by omega)
  have H5 := Lib.hid (H4.out (by omega))
  clear H4 h1 h2
  cases b1
  · have a0 := (R0.out 0 _ rfl).1
    have a1 := (R0.out 1 _ rfl).1
    have la := cell_lt a0
    go_enter Tryz.func25, Tryz.ntmps25
    go_upto_region 1 with (fail)
    rw [← HW.out]
    go_wp2_with fail
    refine (H1.out _ (Kept.refl _)).mono ?_
    rintro e w1 ⟨rfl, hk1⟩
    have K1 := Lib.hid ((Kept.refl W0).trans hk1)
    clear a0 a1 la hk1
    have a0 := (R0.out.kept K1.out 0 _ rfl).1
    have a1 := (R0.out.kept K1.out 1 _ rfl).1
    have la := cell_lt a0
    go_wp2
    go_ret
    exact ⟨ret_int (by rw [HB.out]; rw [if_neg HN.out]; rfl), K0.out.trans K1.out⟩
  cases b2
  · have a0 := (R0.out 0 _ rfl).1
    have a1 := (R0.out 1 _ rfl).1
    have la := cell_lt a0
    go_enter Tryz.func25, Tryz.ntmps25
    go_upto_region 1 with (fail)
    rw [← HW.out]
    go_wp2_with fail
    refine (H1.out _ (Kept.refl _)).mono ?_
    rintro e w1 ⟨rfl, hk1⟩
    have K1 := Lib.hid ((Kept.refl W0).trans hk1)
    clear a0 a1 la hk1
    have a0 := (R0.out.kept K1.out 0 _ rfl).1
    have a1 := (R0.out.kept K1.out 1 _ rfl).1
    have la := cell_lt a0
    go_wp2_with fail
    refine (H2.out _ K1.out).mono ?_
    rintro e w2 ⟨rfl, hk2⟩
    have K2 := Lib.hid (K1.out.trans hk2)
    clear a0 a1 la hk2
    have a0 := (R0.out.kept K2.out 0 _ rfl).1
    have a1 := (R0.out.kept K2.out 1 _ rfl).1
    have la := cell_lt a0
    go_wp2
    go_ret
    exact ⟨ret_int (by rw [HB.out]; rw [if_neg HN.out]; rfl), K0.out.trans K2.out⟩
  cases b3
  · cases b4
    all_goals
      have a0 := (R0.out 0 _ rfl).1
      have a1 := (R0.out 1 _ rfl).1
      have la := cell_lt a0
      go_enter Tryz.func25, Tryz.ntmps25
      go_upto_region 1 with (fail)
      rw [← HW.out]
      go_wp2_with fail
      refine (H1.out _ (Kept.refl _)).mono ?_
      rintro e w1 ⟨rfl, hk1⟩
      have K1 := Lib.hid ((Kept.refl W0).trans hk1)
      clear a0 a1 la hk1
      have a0 := (R0.out.kept K1.out 0 _ rfl).1
      have a1 := (R0.out.kept K1.out 1 _ rfl).1
      have la := cell_lt a0
      go_wp2_with fail
      refine (H2.out _ K1.out).mono ?_
      rintro e w2 ⟨rfl, hk2⟩
      have K2 := Lib.hid (K1.out.trans hk2)
      clear a0 a1 la hk2
      have a0 := (R0.out.kept K2.out 0 _ rfl).1
      have a1 := (R0.out.kept K2.out 1 _ rfl).1
      have la := cell_lt a0
      go_wp2_with fail
      refine (H3.out _ K2.out).mono ?_
      rintro e w3 ⟨rfl, hk3⟩
      have K3 := Lib.hid (K2.out.trans hk3)
      clear a0 a1 la hk3
      have a0 := (R0.out.kept K3.out 0 _ rfl).1
      have a1 := (R0.out.kept K3.out 1 _ rfl).1
      have la := cell_lt a0
      go_wp2_with fail
      refine (H5.out _ K3.out).mono ?_
      rintro e w4 ⟨rfl, hk4⟩
      have K4 := Lib.hid (K3.out.trans hk4)
      clear a0 a1 la hk4
      have a0 := (R0.out.kept K4.out 0 _ rfl).1
      have a1 := (R0.out.kept K4.out 1 _ rfl).1
      have la := cell_lt a0
      go_wp2
      go_ret
      exact ⟨ret_int (by rw [HB.out]; rw [if_neg HN.out]; rfl), K0.out.trans K4.out⟩
  · have a0 := (R0.out 0 _ rfl).1
    have a1 := (R0.out 1 _ rfl).1
    have la := cell_lt a0
    go_enter Tryz.func25, Tryz.ntmps25
    go_upto_region 1 with (fail)
    rw [← HW.out]
    go_wp2_with fail
    refine (H1.out _ (Kept.refl _)).mono ?_
    rintro e w1 ⟨rfl, hk1⟩
    have K1 := Lib.hid ((Kept.refl W0).trans hk1)
    clear a0 a1 la hk1
    have a0 := (R0.out.kept K1.out 0 _ rfl).1
    have a1 := (R0.out.kept K1.out 1 _ rfl).1
    have la := cell_lt a0
    go_wp2_with fail
    refine (H2.out _ K1.out).mono ?_
    rintro e w2 ⟨rfl, hk2⟩
    have K2 := Lib.hid (K1.out.trans hk2)
    clear a0 a1 la hk2
    have a0 := (R0.out.kept K2.out 0 _ rfl).1
    have a1 := (R0.out.kept K2.out 1 _ rfl).1
    have la := cell_lt a0
    go_wp2_with fail
    refine (H3.out _ K2.out).mono ?_
    rintro e w3 ⟨rfl, hk3⟩
    have K3 := Lib.hid (K2.out.trans hk3)
    clear a0 a1 la hk3
    have a0 := (R0.out.kept K3.out 0 _ rfl).1
    have a1 := (R0.out.kept K3.out 1 _ rfl).1
    have la := cell_lt a0
    go_wp2
    go_ret
    exact ⟨ret_int (by rw [HB.out]; rw [if_neg HN.out]; rfl), K0.out.trans K3.out⟩
end Go.Proofs.YtologmoanaccpaaGreatDoor
