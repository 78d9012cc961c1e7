/-
  the relation of worlds, and what a package's small tests answer
-/
import Derived.Test.YtologmoanaccpaaDoorBa
import Derived.Below
import Derived.WalkSmall
import Derived.WalkKit
import Derived.Lib.Hide
import Derived.Deep.QuietTactic
import Derived.BigQuiet
import Derived.WalkLawsBesides
import Derived.Outline
import Derived.Deep.RegionWith
import Derived.IntWalk
import Derived.RegionDies
import Derived.Defers
import Derived.Recover
import Derived.Tactics2
import Derived.Shelf.Abstract
namespace Go.Proofs.YtologmoanaccpaaDoor.Tly
set_option linter.all false
open Go.RowKit

def IntRow (w : World) (b : Nat) (xs : List Int) : Prop := ∀ k x, xs[k]? = some x → w.cell? ⟨b, k, none⟩ = some (.int .i64 x)

theorem within_any (lo hi : Int) (b n c : Nat) (xs : List Int) (w : World) (hn : xs.length = n) (hbig : n ≤ 9223372036854775807) (hz : IntRow w b xs) :
    Calls Tryd.prog 55 #[.int .i64 lo, .int .i64 hi, .slice (some ⟨b, 0, none⟩) n c] w fun e w' => e = .returned (.bool (xs.all (fun x => inB x lo hi))) ∧ w' = w := by
  have Hn := Lib.hid hn
  have Hz := Lib.hid hz
  clear hn hz
  go_enter Tryd.func55, Tryd.ntmps55
  go_wp2_with fail
  go_loopw [11] (fun i wr => ∃ k : Nat, k ≤ n ∧ i = .int .i64 k ∧ (∀ j x, j < k → xs[j]? = some x → inB x lo hi = true) ∧ w = wr) (fun i _ => n - (intOf i).toNat)
  case atStart => exact ⟨0, by omega, by first | rfl | go_num, fun j x hj => by omega, rfl⟩
  case round =>
    obtain ⟨k, hk, rfl, ho, rfl⟩ := hrel
    have Ho := Lib.hid ho
    clear ho
    by_cases hlt : k < n
    · obtain ⟨x, hx⟩ : ∃ x, xs[k]? = some x := ⟨xs[k]'(by rw [Hn.out]; exact hlt), List.getElem?_eq_getElem (by rw [Hn.out]; exact hlt)⟩
      have Hx := Lib.hid hx
      have c0 := Hz.out k x hx
      clear hx
      rcases h : inB x lo hi with _ | _
      · have Hp := Lib.hid h
        have h2 := inB_not.1 h
        clear h
        have hall : xs.all (fun x => inB x lo hi) = false := by
          rw [List.all_eq_false]
          exact ⟨x, List.mem_of_getElem? Hx.out, by simp [Hp.out]⟩
        have Hall := Lib.hid hall
        clear hall
        rcases Int.lt_or_le x lo with h3 | h3
        · go_wp2
          go_ret
          exact ⟨ret_bool Hall.out.symm, rfl⟩
        · have h4 : hi < x := by omega
          clear h2
          go_wp2
          go_ret
          exact ⟨ret_bool Hall.out.symm, rfl⟩
      · have Hp := Lib.hid h
        obtain ⟨h2, h3⟩ := inB_iff.1 h
        clear h
        go_wp2
        go_roundw
        case rel =>
          refine ⟨k + 1, by omega, by go_num, fun j y hj hy => ?_, by first | trivial | rfl⟩
          rcases Nat.lt_or_eq_of_le (Nat.le_of_lt_succ hj) with h | h
          · exact Ho.out j y h hy
          · subst h
            have := Hx.out
            rw [hy] at this
            cases this
            exact Hp.out
        case measure => simp [intOf]; omega
    · obtain rfl : k = n := by omega
      have hall : xs.all (fun x => inB x lo hi) = true := by
        rw [List.all_eq_true]
        intro x hx
        obtain ⟨j, hj⟩ := List.getElem?_of_mem hx
        exact Ho.out j x (by rw [← Hn.out]; exact (List.getElem?_eq_some_iff.1 hj).1) hj
      have Hall := Lib.hid hall
      clear hall
      go_wp2
      go_ret
      exact ⟨ret_bool Hall.out.symm, rfl⟩
end Go.Proofs.YtologmoanaccpaaDoor.Tly

namespace Go.Proofs.YtologmoanaccpaaDoor.Tly
set_option linter.all false
open Go.RowKit

theorem cellNew {W : World} {b k : Nat} {cs : Array Value} {t : TypeId} {v : Value} (hb : b = W.heap.size) (h : cs[k]? = some v) : (W.alloc (Obj.cells cs t)).cell? ⟨b, k, none⟩ = some v := by
  subst hb
  have e : (W.alloc (Obj.cells cs t)).heap = W.heap.push (Obj.cells cs t) := rfl
  simp [World.cell?, e, h]
theorem IntRow.kept {w W : World} {b : Nat} {xs : List Int} (h : IntRow w b xs) (k : Kept w W) : IntRow W b xs := fun j x hj => (k.cells _ _ (cell_lt (h j x hj))).trans (h j x hj)
theorem IntRow.one {w : World} {b : Nat} {x : Int} (h : w.cell? ⟨b, 0, none⟩ = some (.int .i64 x)) : IntRow w b [x] := by
  intro k y hk
  match k with
  | 0 => simp at hk; subst hk; exact h
  | k + 1 => simp at hk
theorem IntRow.two {w : World} {b : Nat} {x y : Int} (h : w.cell? ⟨b, 0, none⟩ = some (.int .i64 x)) (h1 : w.cell? ⟨b, 1, none⟩ = some (.int .i64 y)) : IntRow w b [x, y] := by
  intro k z hk
  match k with
  | 0 => simp at hk; subst hk; exact h
  | 1 => simp at hk; subst hk; exact h1
  | k + 2 => simp at hk
theorem within1 (lo hi : Int) (b c : Nat) (x : Int) (w : World) (h : w.cell? ⟨b, 0, none⟩ = some (.int .i64 x)) :
    Calls Tryd.prog 55 #[.int .i64 lo, .int .i64 hi, .slice (some ⟨b, 0, none⟩) 1 c] w fun e w' => e = .returned (.bool (inB x lo hi)) ∧ w' = w :=
  (within_any lo hi b 1 c [x] w rfl (by omega) (IntRow.one h)).mono fun _ _ ⟨he, hw⟩ => ⟨by rw [he]; simp, hw⟩
theorem within2 (lo hi : Int) (b c : Nat) (x y : Int) (w : World) (h : w.cell? ⟨b, 0, none⟩ = some (.int .i64 x)) (h1 : w.cell? ⟨b, 1, none⟩ = some (.int .i64 y)) :
    Calls Tryd.prog 55 #[.int .i64 lo, .int .i64 hi, .slice (some ⟨b, 0, none⟩) 2 c] w fun e w' => e = .returned (.bool (inB x lo hi && inB y lo hi)) ∧ w' = w :=
  (within_any lo hi b 2 c [x, y] w rfl (by omega) (IntRow.two h h1)).mono fun _ _ ⟨he, hw⟩ => ⟨by rw [he]; simp, hw⟩

def entryB (i s : Int) (ds : List Int) : Bool := inB i 1 1000000 && inB s 1 40 && ds.all (fun x => inB x 0 100000)
theorem isEntry_any (i s : Int) (b n c : Nat) (xs : List Int) (w : World) (hn : xs.length = n) (hbig : n ≤ 9223372036854775807) (hz : IntRow w b xs) :
    Calls Tryd.prog 56 #[.int .i64 i, .int .i64 s, .slice (some ⟨b, 0, none⟩) n c] w fun e w' => e = .returned (.bool (entryB i s xs)) ∧ Kept w w' := by
  have Hn := Lib.hid hn
  have Hz := Lib.hid hz
  clear hn hz
  rcases h1 : inB i 1 1000000 with _ | _
  · have H1 := Lib.hid h1
    go_enter Tryd.func56, Tryd.ntmps56
    go_wp2_with (go_at_call 55; refine (within1 _ _ _ _ i _ (cellNew (by simp) rfl)).mono ?_; rw [h1]; rintro e w' ⟨rfl, rfl⟩)
    go_ret
    exact ⟨ret_bool (by simp [entryB, H1.out]), ((Kept.refl _).alloc _)⟩
  · rcases h2 : inB s 1 40 with _ | _
    · have H1 := Lib.hid h1
      have H2 := Lib.hid h2
      go_enter Tryd.func56, Tryd.ntmps56
      go_wp2_with (first | (go_at_call 55; with_reducible refine (within1 1 40 _ _ s _ (cellNew (by simp) rfl)).mono ?_; rw [h2]; rintro e w' ⟨rfl, rfl⟩) | (go_at_call 55; with_reducible refine (within1 1 1000000 _ _ i _ (cellNew (by simp) rfl)).mono ?_; rw [h1]; rintro e w' ⟨rfl, rfl⟩))
      go_ret
      exact ⟨ret_bool (by simp [entryB, H2.out]), ((Kept.refl _).alloc _).alloc _⟩
    · have H1 := Lib.hid h1
      have H2 := Lib.hid h2
      go_enter Tryd.func56, Tryd.ntmps56
      go_wp2_with (first | (go_at_call 55; with_reducible refine (within1 1 40 _ _ s _ (cellNew (by simp) rfl)).mono ?_; rw [h2]; rintro e w' ⟨rfl, rfl⟩) | (go_at_call 55; with_reducible refine (within1 1 1000000 _ _ i _ (cellNew (by simp) rfl)).mono ?_; rw [h1]; rintro e w' ⟨rfl, rfl⟩) | (go_at_call 55; with_reducible refine (within_any 0 100000 _ _ _ xs _ Hn.out hbig (Hz.out.kept (((Kept.refl _).alloc _).alloc _))).mono ?_; rintro e w' ⟨rfl, rfl⟩))
      go_ret
      exact ⟨ret_bool (by simp [entryB, H1.out, H2.out]), ((Kept.refl _).alloc _).alloc _⟩

def rateB (m d : Int) : Bool := inB m 0 500 && inB d 0 500

theorem isRate_any (m d : Int) (w : World) :
    Calls Tryd.prog 26 #[.agg #[.int .i64 m, .int .i64 d]] w fun e w' => e = .returned (.bool (rateB m d)) ∧ Kept w w' := by
  go_enter Tryd.func26, Tryd.ntmps26
  go_wp2_with (go_at_call 55; refine (within2 _ _ _ _ m d _ (cellNew (by simp) rfl) (cellNew (by simp) rfl)).mono ?_; rintro e w' ⟨rfl, rfl⟩)
  go_ret
  exact ⟨rfl, ((Kept.refl _).alloc _).alloc _⟩
theorem isTrue_any (n : Int) (w : World) :
    Calls Tryd.prog 57 #[.int .i64 n] w fun e w' => e = .returned (.bool (inB n 0 100000)) ∧ Kept w w' := by
  go_enter Tryd.func57, Tryd.ntmps57
  go_wp2_with (go_at_call 55; refine (within1 _ _ _ _ n _ (cellNew (by simp) rfl)).mono ?_; rintro e w' ⟨rfl, rfl⟩)
  go_ret
  exact ⟨rfl, (Kept.refl _).alloc _⟩
theorem valid_any (b : Bool) (w : World) :
    Calls Tryd.prog 29 #[.bool b] w fun e w' => e = .returned (.int .i64 (if b = true then 0 else 1)) ∧ w' = w := by
  cases b
  all_goals
    go_enter Tryd.func29, Tryd.ntmps29
    go_wp2
    go_ret
    exact ⟨rfl, rfl⟩
end Go.Proofs.YtologmoanaccpaaDoor.Tly
