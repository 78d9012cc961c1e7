/- ContainsFunc of empty; joined with plus -/
import Derived.Test.YtjaicilnlgjdcaaVn
namespace Go.Proofs.Ytjaicilnlgjdcaa
set_option linter.all false
open Go.RowKit

theorem e78 : ∀ args w, (callFunc 78 args).run Try.prog w = .ok (.enter 78 args) w := enters_of Try.func78 (by kernel_rfl) rfl
theorem e82 : ∀ args w, (callFunc 82 args).run Try.prog w = .ok (.enter 82 args) w := enters_of Try.func82 (by kernel_rfl) rfl
def emI (x : Iv) : Bool := empB x.lo x.hi x.so
/-- the index of the first empty one, or -1 -/
def emX (l : List Iv) : Int := if l.any emI = true then (l.findIdx emI : Nat) else -1

set_option maxRecDepth 100000 in
theorem indexEmpty_any (A : Option Addr) (n c : Nat) (xs : List Iv) (w : World) (hT : SliK 3 ivCells w A n c xs) (hlt : n ≤ 1000000) :
    Calls Try.prog 105 #[.slice A n c, .func (.func 78) #[] #[]] w fun e w' => e = .returned (.int .i64 (emX xs)) ∧ Kept w w' := by
  have HT := Lib.hid hT
  have hnc := hT.2.1
  have hcm := hT.2.2.1
  have e78 := e78
  clear hT
  go_enter Try.func105, Try.ntmps105
  go_wp2_with fail
  go_loopw [8] (fun i wr => ∃ k : Nat, k ≤ n ∧ i = .int .i64 k ∧ Kept w wr ∧ (∀ j x, j < k → xs[j]? = some x → emI x = false)) (fun i _ => n - (intOf i).toNat)
  case atStart => exact ⟨0, by omega, by first | rfl | go_num, Kept.refl _, fun j x hj => absurd hj (Nat.not_lt_zero _)⟩
  case round =>
    obtain ⟨k, hk, rfl, hkw, hf⟩ := hrel
    have HF := Lib.hid hf
    clear hf
    by_cases hlt2 : k < n
    · obtain ⟨b, off, hA, htab⟩ := HT.out.2.2.2 (by omega)
      subst hA
      have hxl : k < xs.length := by rw [HT.out.1]; exact hlt2
      obtain ⟨x, hx⟩ : ∃ x, xs[k]? = some x := ⟨xs[k]'hxl, List.getElem?_eq_getElem hxl⟩
      have HX := Lib.hid hx
      have q0 := (hkw.cells _ _ (cell_lt (htab k x hx 0 _ rfl))).trans (htab k x hx 0 _ rfl)
      have q1 := (hkw.cells _ _ (cell_lt (htab k x hx 1 _ rfl))).trans (htab k x hx 1 _ rfl)
      have q2 := (hkw.cells _ _ (cell_lt (htab k x hx 2 _ rfl))).trans (htab k x hx 2 _ rfl)
      simp only [Nat.add_zero] at q0
      clear htab hx
      obtain ⟨eb, heb⟩ : ∃ eb, eb = emI x := ⟨_, rfl⟩
      have HC : RowKit.Hid (∀ W, Calls Try.prog 78 #[.agg #[.int .i64 x.lo, .int .i64 x.hi, .bool x.so]] W fun e w' => e = .returned (.bool eb) ∧ Kept W w') := Lib.hid (fun W => by rw [heb]; exact empty_any x.lo x.hi x.so W)
      have HEB := Lib.hid heb
      clear heb
      cases eb
      · have HN : RowKit.Hid (∀ j y, j < k + 1 → xs[j]? = some y → emI y = false) := Lib.hid (fun j y hj hy => by
          rcases Nat.lt_or_eq_of_le (Nat.le_of_lt_succ hj) with h | h
          · exact HF.out j y h hy
          · subst h; have := HX.out; rw [hy] at this; cases this; exact HEB.out.symm)
        go_wp2_with (go_at_fn 78; refine (HC.out _).mono ?_; rintro e w3 ⟨rfl, hk3⟩)
        go_roundw
        case rel => exact ⟨k + 1, by omega, by go_num, hkw.trans hk3, HN.out⟩
        case measure => simp [intOf]; omega
      · have HS : RowKit.Hid (emX xs = (k : Int)) := Lib.hid (by
          have h1 : xs.any emI = true := by rw [List.any_eq_true]; exact ⟨x, List.mem_of_getElem? HX.out, HEB.out.symm⟩
          rw [emX, if_pos h1]
          congr 1
          rw [List.findIdx_eq hxl]
          refine ⟨?_, fun j hj => ?_⟩
          · have := (List.getElem?_eq_some_iff.1 HX.out).2; rw [this]; exact HEB.out.symm
          · exact HF.out j _ hj (List.getElem?_eq_getElem (by omega)))
        go_wp2_with (go_at_fn 78; refine (HC.out _).mono ?_; rintro e w3 ⟨rfl, hk3⟩)
        go_ret
        exact ⟨ret_int HS.out.symm, hkw.trans hk3⟩
    · obtain rfl : k = n := by omega
      have HS : RowKit.Hid (emX xs = -1) := Lib.hid (by
        have h1 : xs.any emI = false := by
          rw [List.any_eq_false]
          intro x hx
          obtain ⟨j, hj⟩ := List.getElem?_of_mem hx
          simp [HF.out j x (by rw [← HT.out.1]; exact (List.getElem?_eq_some_iff.1 hj).1) hj]
        rw [emX, if_neg (by rw [h1]; simp)])
      go_wp2
      go_ret
      exact ⟨ret_int HS.out.symm, hkw⟩
theorem hasEmpty_any (A : Option Addr) (n c : Nat) (xs : List Iv) (w : World) (hT : SliK 3 ivCells w A n c xs) (hlt : n ≤ 1000000) :
    Calls Try.prog 77 #[.slice A n c, .func (.func 78) #[] #[]] w fun e w' => e = .returned (.bool (xs.any emI)) ∧ Kept w w' := by
  obtain ⟨k, hk⟩ : ∃ k, k = emX xs := ⟨_, rfl⟩
  have HC : RowKit.Hid (∀ W, Kept w W → Calls Try.prog 105 #[.slice A n c, .func (.func 78) #[] #[]] W fun e w' => e = .returned (.int .i64 k) ∧ Kept W w') := Lib.hid (fun W hW => by rw [hk]; exact indexEmpty_any A n c xs W (hT.kept hW) hlt)
  have HS : RowKit.Hid (xs.any emI = decide (0 ≤ k)) := Lib.hid (by
    rw [hk, emX]
    rcases h : xs.any emI with _ | _
    · simp
    · simp)
  rw [HS.out]
  clear hk hT
  go_enter Try.func77, Try.ntmps77
  go_wp2_with (go_at_call 105; refine (HC.out _ (Kept.refl _)).mono ?_; rintro e w3 ⟨rfl, hk3⟩)
  go_ret
  exact ⟨rfl, hk3⟩
end Go.Proofs.Ytjaicilnlgjdcaa
