/-
  Opening a law's arguments: slices of ints.
-/
import Derived.Test.YtcjpecdnenemaaaGreatDoorOp3
import Derived.Test.YtcjpecdnenemaaaGreatDoorGL
namespace Go.Proofs.YtcjpecdnenemaaaGreatDoor
set_option linter.all false
open Go.ChangeShapes Go.WideShapes Go.RowKit Go.Deep

theorem int_read {H : Type} {enc : TypeId × Value → H} {W : World} {base : Nat} {sp : Nat → Bool} {held : Bool} {fuel : Nat} {cs : List Value} {x : DataW H × List MemPlace} (hl : cs.length = 1)
    (h : DataW.trod enc Tryz.prog W base sp held fuel 3 cs = some x) : ∃ e : Int, cs = [.int .i64 e] ∧ -9223372036854775808 ≤ e ∧ e ≤ 9223372036854775807 := by
  match cs, hl with
  | [c0], _ =>
    obtain ⟨x0, e0, _, w0⟩ := DataW.trod_int Tryz.underlying3 h
    injection e0 with e0
    exact ⟨x0, by rw [e0], wf_bd3 w0⟩
set_option maxRecDepth 1000000 in
theorem ints_open {H : Type} {enc : TypeId × Value → H} {W : World} {base : Nat} {sp : Nat → Bool} {held : Bool} {b0 : Nat} {v : Value} {d : DataW H} {p : List MemPlace}
    (hv : Value.okWide Tryz.prog W .any b0 55 v) (h : DataW.Trod enc Tryz.prog W base sp held 55 v d p) :
    ∃ A n c zs, v = .slice A n c ∧ IntsA W A n c zs := by
  obtain ⟨A0, n0, c0, rfl⟩ := okWide_slice Tryz.underlying55 hv
  obtain ⟨fuel, hf⟩ := h
  rcases open_slice Tryz.underlying55 hf with ⟨h0, _⟩ | ⟨a, len, cap, m, n, D, Pl, hcs, hb, hl, hm, hmm, hx, hi⟩
  · simp only [Value.cells] at h0
    obtain ⟨rfl, rfl, rfl⟩ : A0 = none ∧ n0 = 0 ∧ c0 = 0 := by simpa using h0
    exact ⟨none, 0, 0, [], rfl, rfl, by omega, by omega, fun x hx => (by cases hx), fun h => by omega⟩
  · simp only [Value.cells] at hcs
    obtain ⟨rfl, rfl, rfl⟩ : A0 = some a ∧ n0 = len ∧ c0 = cap := by simpa using hcs
    have hlm : n0 ≤ m := by rw [hmm]; split <;> omega
    have key : ∀ i, i < n0 → ∃ e : Int, W.cell? ((a.add (i * 1)).add 0) = some (.int .i64 e) ∧ -9223372036854775808 ≤ e ∧ e ≤ 9223372036854775807 := by
      intro i hin
      obtain ⟨cs', hc, ht⟩ := hi i (by omega)
      rw [cells3] at hc
      obtain ⟨_, hcl, hat⟩ := World.cells?_some hc
      obtain ⟨e, he, hs⟩ := int_read hcl ht
      refine ⟨e, ?_, hs⟩
      subst he
      exact hat 0 (by omega)
    obtain ⟨q, hq⟩ := choose_lt key
    refine ⟨some a, n0, c0, (List.range n0).map q, rfl, by simp, hl, by simpa [maxLen] using hm, fun x hx => ?_, fun hn => ?_⟩
    · rw [List.mem_map] at hx
      obtain ⟨i, hir, rfl⟩ := hx
      exact (hq i (List.mem_range.1 hir)).2
    · have h0 := (hq 0 hn).1
      have ea : (a.add (0 * 1)).add 0 = a := by simp [Addr.add]
      rw [ea] at h0
      have hA := addr_at h0
      refine ⟨a.block, a.off, congrArg some hA, fun i p hp => ?_⟩
      have hin : i < n0 := by
        have := (List.getElem?_eq_some_iff.1 hp).1
        simpa using this
      have e : p = q i := by
        rw [List.getElem?_map, List.getElem?_range hin] at hp
        simpa using hp.symm
      subst e
      have := (hq i hin).1
      rw [hA, addr_add, addr_add] at this
      simpa using this
end Go.Proofs.YtcjpecdnenemaaaGreatDoor
