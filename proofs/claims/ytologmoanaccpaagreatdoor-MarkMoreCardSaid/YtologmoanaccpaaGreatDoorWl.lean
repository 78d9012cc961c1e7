/-
  opening a mark, a fade
-/
import Derived.Test.YtologmoanaccpaaGreatDoorBO
namespace Go.Proofs.YtologmoanaccpaaGreatDoor
set_option linter.all false
open Go.ChangeShapes Go.WideShapes Go.ChangeAt Go.RowKit Go.Shelf Go.Deep

section
variable {H : Type} {enc : TypeId × Value → H} {W : World} {base : Nat} {sp : Nat → Bool} {held : Bool} {fuel : Nat} {x : DataW H × List MemPlace}
variable {b0 : Nat} {v : Value} {d : DataW H} {p : List MemPlace}
set_option maxRecDepth 1000000 in
theorem mk_open (hv : Value.okWide Tryz.prog W .any b0 32 v) (h : DataW.Trod enc Tryz.prog W base sp held 32 v d p) : ∃ m : Mk, v = .agg #[.int .i64 m.own, .int .i64 m.frm, .int .i64 m.unt, .int .u8 m.sg.s0, .int .u8 m.sg.s1, .int .u8 m.sg.s2, .int .u8 m.sg.s3, .int .u8 m.sg.s4, .int .u8 m.sg.s5] ∧ m.ok := by
  obtain ⟨cs, rfl, hsz⟩ := okWide_struct Tryz.underlying32 hv
  obtain ⟨fuel, hf⟩ := h
  have hl : cs.toList.length = 9 := by
    obtain ⟨xs, n, _, _, hl, _, _⟩ := DataW.trod_struct Tryz.underlying32 hf
    simpa [Value.cells, cells32] using hl
  obtain ⟨s, he, hs⟩ := mk_read (by simpa [Value.cells] using hl) hf
  refine ⟨s, ?_, hs⟩
  simp only [Value.cells] at he
  cases cs
  simp only at he
  subst he
  rfl
set_option maxRecDepth 1000000 in
theorem fd_open (hv : Value.okWide Tryz.prog W .any b0 87 v) (h : DataW.Trod enc Tryz.prog W base sp held 87 v d p) : ∃ f : Fd, v = .agg #[.int .u8 f.sign, .int .u8 f.seen] ∧ f.ok := by
  obtain ⟨cs, rfl, hsz⟩ := okWide_struct Tryz.underlying87 hv
  obtain ⟨fuel, hf⟩ := h
  have hl : cs.toList.length = 2 := by
    obtain ⟨xs, n, _, _, hl, _, _⟩ := DataW.trod_struct Tryz.underlying87 hf
    simpa [Value.cells, cells87] using hl
  obtain ⟨s, he, hs⟩ := fd_read (by simpa [Value.cells] using hl) hf
  refine ⟨s, ?_, hs⟩
  simp only [Value.cells] at he
  cases cs
  simp only at he
  subst he
  rfl
end
end Go.Proofs.YtologmoanaccpaaGreatDoor
