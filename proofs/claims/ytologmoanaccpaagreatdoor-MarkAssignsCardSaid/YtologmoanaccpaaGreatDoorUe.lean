/-
  few with found beasts and claims
-/
import Derived.Test.YtologmoanaccpaaGreatDoorUA
import Derived.Test.YtologmoanaccpaaGreatDoorZD
namespace Go.Proofs.YtologmoanaccpaaGreatDoor
set_option linter.all false
open Go.RowKit Go.Shelf

set_option maxRecDepth 100000 in
set_option maxHeartbeats 12800000 in
theorem few_any (A B C D : Option Addr) (n c m d p q u v : Nat) (ms : List Mk) (fs : List Fd) (found : List Sg) (cls : List Cl) (w : World) (hs : SmA w A n c ms B m d fs) (hfo : SlA sgV 6 Sg.ok w C p q found) (hcl : SlA clC 2 Cl.ok w D u v cls) :
    Calls Tryz.prog 27 #[.agg #[.slice A n c, .slice B m d], .slice C p q, .slice D u v] w (FewP w) := by
  obtain ⟨W0, hW0⟩ : ∃ W0, W0 = w.alloc (.cells #[.slice A n c, .slice B m d] 25) := ⟨_, rfl⟩
  have K0 : RowKit.Hid (Kept w W0) := Lib.hid (by rw [hW0]; exact (Kept.refl _).alloc _)
  have R0 : RowKit.Hid (RowC W0 w.heap.size [.slice A n c, .slice B m d]) := Lib.hid (by rw [hW0]; exact RowC.new w [.slice A n c, .slice B m d] 25)
  have HW := Lib.hid hW0
  have hnc := hs.1.2.1
  have hcm := hs.1.2.2.1
  have hmc := hs.2.2.1
  have hdm := hs.2.2.2.1
  have hpc := hfo.2.1
  have hpm := hfo.2.2.1
  have huc := hcl.2.1
  have hum := hcl.2.2.1
  have a0 := (R0.out 0 _ rfl).1
  have a1 := (R0.out 1 _ rfl).1
  have la := cell_lt a0
  clear hW0 hs hfo hcl
  by_cases n1 : 12 < n
  · by_cases n2 : n ≤ 100
    · skip
      go_enter Tryz.func27, Tryz.ntmps27
      go_upto_region 1 with (fail)
      rw [← HW.out]
      go_wp2_with fail
      go_ret
      exact ⟨⟨_, rfl⟩, K0.out⟩
    · by_cases n3 : 110 < n
      · skip
        go_enter Tryz.func27, Tryz.ntmps27
        go_upto_region 1 with (fail)
        rw [← HW.out]
        go_wp2_with fail
        go_ret
        exact ⟨⟨_, rfl⟩, K0.out⟩
      · by_cases m1 : 30 < m
        · skip
          go_enter Tryz.func27, Tryz.ntmps27
          go_upto_region 1 with (fail)
          rw [← HW.out]
          go_wp2_with fail
          go_ret
          exact ⟨⟨_, rfl⟩, K0.out⟩
        · skip
          go_enter Tryz.func27, Tryz.ntmps27
          go_upto_region 1 with (fail)
          rw [← HW.out]
          by_cases p1 : p ≤ 8
          · skip
            by_cases u1 : u ≤ 4
            · skip
              go_wp2_with fail
              go_ret
              exact ⟨⟨_, rfl⟩, K0.out⟩
            · by_cases u2 : 10 < u
              · by_cases u3 : u ≤ 14
                · skip
                  go_wp2_with fail
                  go_ret
                  exact ⟨⟨_, rfl⟩, K0.out⟩
                · skip
                  go_wp2_with fail
                  go_ret
                  exact ⟨⟨_, rfl⟩, K0.out⟩
              · skip
                go_wp2_with fail
                go_ret
                exact ⟨⟨_, rfl⟩, K0.out⟩
          · by_cases p2 : 60 < p
            · by_cases p3 : p ≤ 70
              · skip
                by_cases u1 : u ≤ 4
                · skip
                  go_wp2_with fail
                  go_ret
                  exact ⟨⟨_, rfl⟩, K0.out⟩
                · by_cases u2 : 10 < u
                  · by_cases u3 : u ≤ 14
                    · skip
                      go_wp2_with fail
                      go_ret
                      exact ⟨⟨_, rfl⟩, K0.out⟩
                    · skip
                      go_wp2_with fail
                      go_ret
                      exact ⟨⟨_, rfl⟩, K0.out⟩
                  · skip
                    go_wp2_with fail
                    go_ret
                    exact ⟨⟨_, rfl⟩, K0.out⟩
              · skip
                go_wp2_with fail
                go_ret
                exact ⟨⟨_, rfl⟩, K0.out⟩
            · skip
              go_wp2_with fail
              go_ret
              exact ⟨⟨_, rfl⟩, K0.out⟩
  · have n3 : ¬ 110 < n := by omega
    by_cases m1 : 30 < m
    · skip
      go_enter Tryz.func27, Tryz.ntmps27
      go_upto_region 1 with (fail)
      rw [← HW.out]
      go_wp2_with fail
      go_ret
      exact ⟨⟨_, rfl⟩, K0.out⟩
    · skip
      go_enter Tryz.func27, Tryz.ntmps27
      go_upto_region 1 with (fail)
      rw [← HW.out]
      by_cases p1 : p ≤ 8
      · skip
        by_cases u1 : u ≤ 4
        · skip
          go_wp2_with fail
          go_ret
          exact ⟨⟨_, rfl⟩, K0.out⟩
        · by_cases u2 : 10 < u
          · by_cases u3 : u ≤ 14
            · skip
              go_wp2_with fail
              go_ret
              exact ⟨⟨_, rfl⟩, K0.out⟩
            · skip
              go_wp2_with fail
              go_ret
              exact ⟨⟨_, rfl⟩, K0.out⟩
          · skip
            go_wp2_with fail
            go_ret
            exact ⟨⟨_, rfl⟩, K0.out⟩
      · by_cases p2 : 60 < p
        · by_cases p3 : p ≤ 70
          · skip
            by_cases u1 : u ≤ 4
            · skip
              go_wp2_with fail
              go_ret
              exact ⟨⟨_, rfl⟩, K0.out⟩
            · by_cases u2 : 10 < u
              · by_cases u3 : u ≤ 14
                · skip
                  go_wp2_with fail
                  go_ret
                  exact ⟨⟨_, rfl⟩, K0.out⟩
                · skip
                  go_wp2_with fail
                  go_ret
                  exact ⟨⟨_, rfl⟩, K0.out⟩
              · skip
                go_wp2_with fail
                go_ret
                exact ⟨⟨_, rfl⟩, K0.out⟩
          · skip
            go_wp2_with fail
            go_ret
            exact ⟨⟨_, rfl⟩, K0.out⟩
        · skip
          go_wp2_with fail
          go_ret
          exact ⟨⟨_, rfl⟩, K0.out⟩
end Go.Proofs.YtologmoanaccpaaGreatDoor
