/-
  slices of numbers, seen in three ways
-/
import Derived.Test.YtologmoanaccpaaGreatDoorBM
namespace Go.Proofs.YtologmoanaccpaaGreatDoor
set_option linter.all false
open Go.RowKit Go.Shelf

theorem ia_of {w : World} {A : Option Addr} {n c : Nat} {xs : List Int} (h : SlA inC 1 i64 w A n c xs) (hn : n ≤ 1000) : IntA w A n c xs :=
  ⟨h.1, by omega, trivial, fun h0 => by
    obtain ⟨b, off, e, ht⟩ := h.2.2.2.2 h0
    refine ⟨b, off, e, fun i x hx => ?_⟩
    have := ht i x hx 0 (.int .i64 x) rfl
    rwa [Nat.mul_one, Nat.add_zero] at this⟩
theorem ia_has {w : World} {hb p : Nat} {ow : List Int} (h : HasR w (some ⟨hb, 0, none⟩) p p hb 0 ow) (hp : p ≤ 1000) : IntA w (some ⟨hb, 0, none⟩) p p ow :=
  ⟨h.ln, by omega, trivial, fun h0 => ⟨hb, 0, rfl, fun i x hx => (h.rh i x hx).1⟩⟩
theorem ia_row {w : World} {g n c : Nat} {l : List Int} (h : RowC w g (l.map (Value.int .i64))) (hn : n = l.length) (hs : n ≤ 1000) : IntA w (some ⟨g, 0, none⟩) n c l :=
  ⟨hn.symm, by omega, trivial, fun h0 => ⟨g, 0, rfl, fun i x hx => by rw [Nat.zero_add]; exact (h i (.int .i64 x) (by rw [List.getElem?_map, hx]; rfl)).1⟩⟩
end Go.Proofs.YtologmoanaccpaaGreatDoor
