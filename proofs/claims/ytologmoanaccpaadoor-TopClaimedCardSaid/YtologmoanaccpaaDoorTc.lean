/-
  search.first; what a rate shows
-/
import Derived.Test.YtologmoanaccpaaDoorTb
namespace Go.Proofs.YtologmoanaccpaaDoor.Tly
set_option linter.all false
open Go.RowKit

theorem e110 : ∀ args w, (callFunc 89 args).run Tryd.prog w = .ok (.enter 89 args) w := enters_of Tryd.func89 (by kernel_rfl) rfl
theorem e101 : ∀ args w, (callFunc 74 args).run Tryd.prog w = .ok (.enter 74 args) w := enters_of Tryd.func74 (by kernel_rfl) rfl
theorem e104 : ∀ args w, (callFunc 78 args).run Tryd.prog w = .ok (.enter 78 args) w := enters_of Tryd.func78 (by kernel_rfl) rfl
theorem e100 : ∀ args w, (callFunc 73 args).run Tryd.prog w = .ok (.enter 73 args) w := enters_of Tryd.func73 (by kernel_rfl) rfl
theorem e103 : ∀ args w, (callFunc 77 args).run Tryd.prog w = .ok (.enter 77 args) w := enters_of Tryd.func77 (by kernel_rfl) rfl
/-- a function from a number to a number, which leaves the world as it is -/
def AtT (u n : Nat) (a : Nat → Int) : Prop := ∀ (W : World) (i : Nat), i < n → Calls Tryd.prog u #[.int .i64 i] W fun e w' => e = .returned (.int .i64 (a i)) ∧ w' = W
/-- what a predicate of numbers has to do -/
def HoldT (g n : Nat) (cb : Array Value) (a : Nat → Int) (q : Nat → Bool) (w : World) : Prop :=
  ∀ (W : World) (i : Nat), Kept w W → i < n → Calls Tryd.prog g (#[.int .i64 (a i)] ++ cb) W fun e w' => e = .returned (.bool (q i)) ∧ Kept W w'
theorem HoldT.kept {g n : Nat} {cb : Array Value} {a : Nat → Int} {q : Nat → Bool} {w W : World} (h : HoldT g n cb a q w) (k : Kept w W) : HoldT g n cb a q W := fun V i hV hi => h V i (k.trans hV) hi

theorem first1_any (b g u n i : Nat) (cb : Array Value) (a : Nat → Int) (q : Nat → Bool) (w : World) (eg : ∀ args w, (callFunc g args).run Tryd.prog w = .ok (.enter g args) w) (eu : ∀ args w, (callFunc u args).run Tryd.prog w = .ok (.enter u args) w)
    (c1 : w.cell? ⟨b, 1, none⟩ = some (.func (.func u) #[] #[])) (c2 : w.cell? ⟨b, 2, none⟩ = some (.func (.func g) #[] cb)) (hu : AtT u n a) (hg : HoldT g n cb a q w) (hi : i < n) :
    Calls Tryd.prog 89 #[.int .i64 i, .pointer (some ⟨b, 0, none⟩)] w fun e w' => e = .returned (.bool (q i)) ∧ Kept w w' := by
  have HU := Lib.hid hu
  have HG := Lib.hid hg
  clear hu hg
  go_enter Tryd.func89, Tryd.ntmps89
  go_wp2_with fail
  go_region_with (first
    | (go_at_fn u; refine (HU.out _ i hi).mono ?_; rintro e w1 ⟨rfl, rfl⟩)
    | (go_at_fn g; refine (HG.out _ i ((Kept.refl _).drew) hi).mono ?_; rintro e w1 ⟨rfl, hk1⟩))
  all_goals go_wp2
  all_goals go_ret
  all_goals exact ⟨rfl, by first | exact ((Kept.refl _).drew).trans hk1⟩
