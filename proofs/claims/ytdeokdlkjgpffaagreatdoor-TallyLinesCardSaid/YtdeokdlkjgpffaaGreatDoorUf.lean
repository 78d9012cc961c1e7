/- SameInts -/
import Derived.Test.YtdeokdlkjgpffaaGreatDoorUa
namespace Go.Proofs.YtdeokdlkjgpffaaGreatDoor
set_option linter.all false
open Go.RowKit

/-- a slice that holds the numbers xs -/
def IntA (w : World) (A : Option Addr) (n c : Nat) (xs : List Int) : Prop :=
  xs.length = n ∧ n ≤ c ∧ c ≤ 9223372036854775807 ∧ (0 < n → ∃ b off, A = some ⟨b, off, none⟩ ∧ ∀ (i : Nat) (x : Int), xs[i]? = some x → w.cell? ⟨b, off + i, none⟩ = some (.int .i64 x))
theorem IntA.kept {w w' : World} {A : Option Addr} {n c : Nat} {xs : List Int} (h : IntA w A n c xs) (hk : Kept w w') : IntA w' A n c xs :=
  ⟨h.1, h.2.1, h.2.2.1, fun hn => by
    obtain ⟨b, off, e, ht⟩ := h.2.2.2 hn
    exact ⟨b, off, e, fun i x hx => (hk.cells _ _ (cell_lt (ht i x hx))).trans (ht i x hx)⟩⟩
theorem IntA.nil (w : World) : IntA w none 0 0 [] := ⟨rfl, by omega, by omega, fun h => by omega⟩
def sameB (xs ys : List Int) : Bool := decide (xs = ys)

set_option maxRecDepth 100000 in
theorem sameInts_any (A : Option Addr) (n c : Nat) (xs : List Int) (B : Option Addr) (m d : Nat) (ys : List Int) (w : World) (hx : IntA w A n c xs) (hy : IntA w B m d ys) :
    Calls Tryz.prog 23 #[.slice A n c, .slice B m d] w fun e w' => e = .returned (.bool (sameB xs ys)) ∧ Kept w w' := by
  have HX := Lib.hid hx
  have HY := Lib.hid hy
  have hnc := hx.2.1
  have hmc := hy.2.1
  have hc := hx.2.2.1
  have hd := hy.2.2.1
  clear hx hy
  by_cases hl : n = m
  · subst hl
    go_enter Tryz.func23, Tryz.ntmps23
    go_wp2_with fail
    go_loopw [5] (fun i w1 => ∃ k : Nat, k ≤ n ∧ i = .int .i64 k ∧ Kept w w1 ∧ xs.take k = ys.take k) (fun i _ => n - (intOf i).toNat)
    case atStart => exact ⟨0, by omega, by first | rfl | go_num, Kept.refl _, rfl⟩
    case round =>
      obtain ⟨k, hk, rfl, hkw, hs⟩ := hrel
      have HS := Lib.hid hs
      clear hs
      by_cases hlt : k < n
      · obtain ⟨b, off, hA, hcx⟩ := HX.out.2.2.2 (by omega)
        obtain ⟨b2, off2, hB, hcy⟩ := HY.out.2.2.2 (by omega)
        subst hA hB
        obtain ⟨x, hx⟩ : ∃ x, xs[k]? = some x := ⟨xs[k]'(by rw [HX.out.1]; exact hlt), List.getElem?_eq_getElem (by rw [HX.out.1]; exact hlt)⟩
        obtain ⟨y, hy⟩ : ∃ y, ys[k]? = some y := ⟨ys[k]'(by rw [HY.out.1]; exact hlt), List.getElem?_eq_getElem (by rw [HY.out.1]; exact hlt)⟩
        have q1 := (hkw.cells _ _ (cell_lt (hcx k x hx))).trans (hcx k x hx)
        have q2 := (hkw.cells _ _ (cell_lt (hcy k y hy))).trans (hcy k y hy)
        have HX1 := Lib.hid hx
        have HY1 := Lib.hid hy
        clear hcx hcy hx hy
        have hi0 : (0 : Int) ≤ (k : Int) := by omega
        have hi1 : (k : Int) < (n : Int) := by omega
        by_cases he : x = y
        · subst he
          have hT : RowKit.Hid (xs.take (k + 1) = ys.take (k + 1)) := Lib.hid (by
            obtain ⟨h1, h2⟩ := List.getElem?_eq_some_iff.1 HX1.out
            obtain ⟨h3, h4⟩ := List.getElem?_eq_some_iff.1 HY1.out
            rw [List.take_succ_eq_append_getElem h1, List.take_succ_eq_append_getElem h3, h2, h4, HS.out])
          go_wp2
          go_quiet (fail)
          go_wp2
          go_roundw
          case rel => exact ⟨k + 1, by omega, by go_num, by first | exact hkw | exact hkw.drewN _ | exact hkw.drew, hT.out⟩
          case measure => simp [intOf]; omega
        · have hne : (x == y) = false := by simpa using he
          have hT : RowKit.Hid (sameB xs ys = false) := Lib.hid (by
            unfold sameB
            rw [decide_eq_false_iff_not]
            intro h
            rw [h] at HX1
            have := HX1.out
            rw [HY1.out] at this
            cases this
            exact he rfl)
          go_wp2
          go_quiet (fail)
          go_wp2
          go_ret
          exact ⟨ret_bool hT.out.symm, by first | exact hkw | exact hkw.drewN _ | exact hkw.drew⟩
      · obtain rfl : k = n := by omega
        have hT : RowKit.Hid (sameB xs ys = true) := Lib.hid (by
          unfold sameB
          rw [decide_eq_true_iff]
          have := HS.out
          rw [List.take_of_length_le (by rw [HX.out.1]; exact Nat.le_refl _), List.take_of_length_le (by rw [HY.out.1]; exact Nat.le_refl _)] at this
          exact this)
        go_wp2
        go_ret
        exact ⟨ret_bool hT.out.symm, hkw⟩
  · have hT : RowKit.Hid (sameB xs ys = false) := Lib.hid (by
      unfold sameB
      rw [decide_eq_false_iff_not]
      intro h
      exact hl (by rw [← HX.out.1, ← HY.out.1, h]))
    go_enter Tryz.func23, Tryz.ntmps23
    go_wp2
    go_ret
    exact ⟨ret_bool hT.out.symm, Kept.refl _⟩
end Go.Proofs.YtdeokdlkjgpffaaGreatDoor
