/- TallyRecounts -/
import Derived.Test.YtjaicilnlgjdcaaWh
import Derived.Test.YtjaicilnlgjdcaaUl
namespace Go.Proofs.Ytjaicilnlgjdcaa
set_option linter.all false
open Go.RowKit Go.Shelf

set_option maxRecDepth 100000 in
set_option maxHeartbeats 4000000 in
theorem recountsLaw_any (A : Option Addr) (n c : Nat) (xs : List Rcn) (known : Int) (w : World) (hT : RcA w A n c xs) :
    Calls Try.prog 7 #[.slice A n c, .int .i64 known] w fun e w' => e = .returned (.bool true) ∧ Kept w w' := by
  have HT := Lib.hid hT
  have hnc := hT.2.1
  have hcm := hT.2.2.1
  clear hT
  by_cases h220 : 220 < n
  · go_enter Try.func7, Try.ntmps7
    go_wp2_with fail
    refine (counted_any _).mono ?_
    rintro e w1 ⟨rfl, hk⟩
    go_wp2
    go_ret
    exact ⟨rfl, hk⟩
  have hlt : n ≤ 1000000 := by omega
  obtain ⟨p, q, hpq⟩ : ∃ p q, crI xs = (p, q) := ⟨_, _, rfl⟩
  have H44 : RowKit.Hid (Calls Try.prog 44 #[.slice A n c] w fun e w' => e = .returned (.tuple #[.int .i64 p, .int .i64 q]) ∧ Kept w w') := Lib.hid (by have := checkRecounts_any A n c xs w HT.out hlt; rwa [hpq] at this)
  have H45 : RowKit.Hid (∀ W, Kept w W → Calls Try.prog 45 #[.slice A n c] W fun e w' => e = .returned (.tuple #[.int .i64 p, .int .i64 q]) ∧ Kept W w') := Lib.hid (fun W hW => by have := rcheckRecounts_any A n c xs W (HT.out.kept hW) hlt; rwa [hpq] at this)
  clear hpq
  go_enter Try.func7, Try.ntmps7
  go_wp2_with fail
  refine H44.out.mono ?_
  rintro e w1 ⟨rfl, hk1⟩
  go_wp2_with fail
  refine (H45.out _ hk1).mono ?_
  rintro e w2 ⟨rfl, hk2⟩
  have K2 := Lib.hid (hk1.trans hk2)
  clear hk1 hk2
  go_wp2_with fail
  refine (counted_any _).mono ?_
  rintro e w3 ⟨rfl, hk3⟩
  have K3 := Lib.hid (K2.out.trans hk3)
  clear hk3
  go_wp2_with fail
  refine (ccounting_any A n c xs known w3 (HT.out.kept K3.out) hlt).mono ?_
  rintro e w4 ⟨A1, n1, c1, rfl, hr1, -, hk4⟩
  have K4 := Lib.hid (K3.out.trans hk4)
  have HR1 := Lib.hid hr1
  clear hk4 hr1
  go_wp2_with fail
  refine (rcounting_any A n c xs known w4 (HT.out.kept K4.out) hlt).mono ?_
  rintro e w5 ⟨A2, n2, c2, rfl, hr2, -, hk5⟩
  have K5 := Lib.hid (K4.out.trans hk5)
  have HR2 := Lib.hid hr2
  have HR3 := Lib.hid (HR1.out.kept hk5)
  clear hk5 hr2
  go_wp2_with fail
  refine (rsameRecs A1 n1 c1 A2 n2 c2 (cntS xs known) w5 HR3.out HR2.out).mono ?_
  rintro e w6 ⟨rfl, hk6⟩
  go_wp2
  go_ret
  exact ⟨by simp, K5.out.trans hk6⟩
end Go.Proofs.Ytjaicilnlgjdcaa
