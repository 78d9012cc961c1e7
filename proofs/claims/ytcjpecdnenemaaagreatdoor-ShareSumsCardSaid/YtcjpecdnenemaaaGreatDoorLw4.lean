/-
  ShareSums: the law's function returns true, whatever its argument.
-/
import Derived.Test.YtcjpecdnenemaaaGreatDoorLw0
import Derived.Test.YtcjpecdnenemaaaGreatDoorSm3
namespace Go.Proofs.YtcjpecdnenemaaaGreatDoor
set_option linter.all false
open Go.RowKit Go.Shelf

set_option maxRecDepth 100000 in
set_option maxHeartbeats 1600000 in
theorem sums_any (A : Option Addr) (n c : Nat) (es : List (Int × Int)) (w : World) (hF : FracsA w A n c es) (hE : Env w) :
    Calls Tryz.prog 4 #[.slice A n c] w fun e w' => e = .returned (.bool true) ∧ Kept w w' := by
  obtain ⟨x0, x1, x2, hx⟩ : ∃ a b c, sumS es = (a, b, c) := ⟨_, _, _, rfl⟩
  have C1 := Lib.hid (fun W hW => sum_of A n c es x0 x1 x2 hx W hW)
  have C2 := Lib.hid (fun W hW => rsum_of A n c es x0 x1 x2 hx W hW)
  have HF := Lib.hid hF
  have HE := Lib.hid hE
  have F0 := Lib.hid (Fx.nil w)
  have K0 := Lib.hid (Kept.refl w)
  clear hx hF hE
  by_cases hbig : n ≤ 1005
  · have hcmp : decide ((n : Int) > 1005) = false := by simp; omega
    go_enter Tryz.func4, Tryz.ntmps4
    go_wp2_with fail
    refine (C1.out _ HF.out).mono ?_
    rintro e w1 ⟨rfl, hk⟩
    have F1 := Lib.hid ((F0.out.kept hk).new x0 x1)
    have K1 := Lib.hid ((K0.out.trans hk).alloc (.cells #[.int .i64 x0, .int .i64 x1] 23))
    clear hk F0 K0
    go_wp2_with fail
    refine (C2.out _ (HF.out.kept K1.out)).mono ?_
    rintro e w2 ⟨rfl, hk⟩
    have F2 := Lib.hid ((F1.out.kept hk).new x0 x1)
    have K2 := Lib.hid ((K1.out.trans hk).alloc (.cells #[.int .i64 x0, .int .i64 x1] 23))
    clear hk F1 K1
    go_wp2_with fail
    refine (alive_any _ (HE.out.kept K2.out)).mono ?_
    rintro e w3 ⟨rfl, hk⟩
    have F3 := F2.out.kept hk
    have K3 := Lib.hid (K2.out.trans hk)
    have g0 := F3.at0 0 rfl
    have g1 := F3.at1 0 rfl
    have g2 := F3.at0 1 rfl
    have g3 := F3.at1 1 rfl
    clear hk F3
    go_wp2_with fail
    go_ret
    exact ⟨rfl, K3.out⟩
  · have hcmp : decide ((n : Int) > 1005) = true := by simp; omega
    go_enter Tryz.func4, Tryz.ntmps4
    go_wp2_with fail
    refine (alive_any _ HE.out).mono ?_
    rintro e w3 ⟨rfl, hk⟩
    go_wp2_with fail
    go_ret
    exact ⟨rfl, hk⟩
end Go.Proofs.YtcjpecdnenemaaaGreatDoor
