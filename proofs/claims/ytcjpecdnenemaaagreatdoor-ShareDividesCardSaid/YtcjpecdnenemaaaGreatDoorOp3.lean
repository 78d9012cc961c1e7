/-
  Opening a law's arguments: heads, numbers.
-/
import Derived.Test.YtcjpecdnenemaaaGreatDoorOp2
import Derived.Test.YtcjpecdnenemaaaGreatDoorGN
namespace Go.Proofs.YtcjpecdnenemaaaGreatDoor
set_option linter.all false
open Go.ChangeShapes Go.WideShapes Go.RowKit Go.Deep

theorem cells84 : Tryz.prog.cellsOf 84 = 2 := by kernel_rfl
theorem wf_bd3 {x : Int} (h : (Lit.int .i64 x).wf = true) : -9223372036854775808 ≤ x ∧ x ≤ 9223372036854775807 := by
  have e1 : IntKind.i64.min = -9223372036854775808 := rfl
  have e2 : IntKind.i64.max = 9223372036854775807 := rfl
  simp [Lit.wf, e1, e2] at h
  omega
instance : Inhabited Hd := ⟨⟨⟨#[]⟩, 0⟩⟩
set_option maxRecDepth 1000000 in
theorem heads_open {H : Type} {enc : TypeId × Value → H} {W : World} {base : Nat} {sp : Nat → Bool} {held : Bool} {b0 : Nat} {v : Value} {d : DataW H} {p : List MemPlace}
    (hv : Value.okWide Tryz.prog W .any b0 61 v) (h : DataW.Trod enc Tryz.prog W base sp held 61 v d p) :
    ∃ A n c hs, v = .slice A n c ∧ HeadsA W A n c hs := by
  obtain ⟨A0, n0, c0, rfl⟩ := okWide_slice Tryz.underlying61 hv
  obtain ⟨fuel, hf⟩ := h
  rcases open_slice_fields Tryz.underlying61 Tryz.underlying84 (by kernel_rfl) cells84 hf with ⟨h0, _⟩ | ⟨a, len, cap, m, hcs, hl, hm, hlm, hi⟩
  · simp only [Value.cells] at h0
    obtain ⟨rfl, rfl, rfl⟩ : A0 = none ∧ n0 = 0 ∧ c0 = 0 := by simpa using h0
    exact ⟨none, 0, 0, [], rfl, rfl, by omega, by omega, fun x hx => (by cases hx), fun h => by omega⟩
  · simp only [Value.cells] at hcs
    obtain ⟨rfl, rfl, rfl⟩ : A0 = some a ∧ n0 = len ∧ c0 = cap := by simpa using hcs
    have key : ∀ i, i < n0 → ∃ q : Hd, (W.cell? (a.add (i * 2)) = some (.string q.sort) ∧ W.cell? (a.add (i * 2 + 1)) = some (.int .i64 q.num)) ∧ q.sort.size ≤ 9223372036854775807 ∧ -9223372036854775808 ≤ q.num ∧ q.num ≤ 9223372036854775807 := by
      intro i hin
      obtain ⟨ys, k, _, hfld⟩ := hi i (by omega)
      obtain ⟨v1, y1, hc1, _, ht1⟩ := hfld 0 _ rfl
      obtain ⟨v2, y2, hc2, _, ht2⟩ := hfld 1 _ rfl
      obtain ⟨x1, e1, _, hm1⟩ := DataW.trod_string Tryz.underlying9 ht1
      obtain ⟨x2, e2, _, hw2⟩ := DataW.trod_int Tryz.underlying3 ht2
      obtain rfl : v1 = .string x1 := by simpa using e1
      obtain rfl : v2 = .int .i64 x2 := by simpa using e2
      exact ⟨⟨x1, x2⟩, ⟨hc1, hc2⟩, by simpa [maxLen] using hm1, wf_bd3 hw2⟩
    obtain ⟨q, hq⟩ := choose_lt key
    refine ⟨some a, n0, c0, (List.range n0).map q, rfl, by simp, hl, by simpa [maxLen] using hm, fun x hx => ?_, fun hn => ?_⟩
    · rw [List.mem_map] at hx
      obtain ⟨i, hir, rfl⟩ := hx
      exact (hq i (List.mem_range.1 hir)).2
    · have h0 := (hq 0 hn).1.1
      have ea : a.add (0 * 2) = a := by simp [Addr.add]
      rw [ea] at h0
      have hA := addr_at h0
      refine ⟨a.block, a.off, congrArg some hA, fun i p hp => ?_⟩
      have hin : i < n0 := by
        have := (List.getElem?_eq_some_iff.1 hp).1
        simpa using this
      have e : p = q i := by
        rw [List.getElem?_map, List.getElem?_range hin] at hp
        simpa using hp.symm
      subst e
      obtain ⟨c1, c2⟩ := (hq i hin).1
      rw [hA, add_plain] at c1 c2
      exact ⟨c1, c2⟩
end Go.Proofs.YtcjpecdnenemaaaGreatDoor
