/-
  tests of rates, tallies, re-counts: the code's and the reference's
-/
import Derived.Test.YtologmoanaccpaaDoorTd
namespace Go.Proofs.YtologmoanaccpaaDoor.Tly
set_option linter.all false
open Go.RowKit

theorem cellOld {W : World} {a : Addr} {v : Value} (o : Obj) (h : W.cell? a = some v) : (W.alloc o).cell? a = some v := by
  rcases a with ⟨b, f, s⟩
  have hb : b < W.heap.size := by
    rcases Nat.lt_or_ge b W.heap.size with hlt | hge
    · exact hlt
    · simp [World.cell?, Array.getElem?_eq_none hge] at h
  have := (Below.alloc (Below.refl W.heap.size W) (Nat.le_refl _) o)
  rw [Below.cell this (p := ⟨b, f, s⟩) hb]; exact h

/-- a test's error -/
def errI (b : Bool) : Int := if b = true then 0 else 1
theorem errI_true : errI true = 0 := rfl
theorem errI_false : errI false = 1 := rfl
def countB (i dy s n x : Int) : Bool := entryB i s [dy] && inB n 0 100000 && inB x 0 10000
def recountB (i dy kn s t n : Int) : Bool := entryB i s [dy, kn] && inB t 0 100000 && decide (0 < t) && inB n 0 200000

end Go.Proofs.YtologmoanaccpaaDoor.Tly
