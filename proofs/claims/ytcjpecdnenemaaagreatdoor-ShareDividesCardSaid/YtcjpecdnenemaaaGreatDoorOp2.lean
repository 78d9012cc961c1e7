/-
  Opening a law's arguments: strings, records, tables.
-/
import Derived.Test.YtcjpecdnenemaaaGreatDoorOp1
import Derived.Test.YtcjpecdnenemaaaGreatDoorGE
namespace Go.Proofs.YtcjpecdnenemaaaGreatDoor
set_option linter.all false
open Go.ChangeShapes Go.WideShapes Go.RowKit Go.Deep

theorem cells37 : Tryz.prog.cellsOf 37 = 7 := by kernel_rfl
theorem cells3 : Tryz.prog.cellsOf 3 = 1 := by kernel_rfl
theorem cells9 : Tryz.prog.cellsOf 9 = 1 := by kernel_rfl
set_option maxRecDepth 1000000 in
/-- a record's cells, read -/
theorem eq_read {H : Type} {enc : TypeId × Value → H} {W : World} {base : Nat} {sp : Nat → Bool} {held : Bool} {fuel : Nat} {cs : List Value} {x : DataW H × List MemPlace}
    (h : DataW.trod enc Tryz.prog W base sp held fuel 37 cs = some x) : ∃ e : Eqv, cs = eqCells e ∧ e.sort.size ≤ 9223372036854775807 := by
  obtain ⟨xs, n, _, _, hl, hlen, hf⟩ := DataW.trod_struct Tryz.underlying37 h
  rw [cells37] at hl
  match cs, hl with
  | [c0, c1, c2, c3, c4, c5, c6], _ =>
    match xs, hlen with
    | [y0, y1, y2, y3, y4, y5], _ =>
      have h0 := hf 0 _ rfl
      have h1 := hf 1 _ rfl
      have h2 := hf 2 _ rfl
      have h3 := hf 3 _ rfl
      have h4 := hf 4 _ rfl
      have h5 := hf 5 _ rfl
      simp only [cells3, cells9, cells23, List.drop_zero, List.drop_succ_cons, List.take_succ_cons, List.take_zero, List.getElem?_cons_zero, List.getElem?_cons_succ] at h0 h1 h2 h3 h4 h5
      obtain ⟨x0, e0, _⟩ := DataW.trod_int Tryz.underlying3 h0
      obtain ⟨x1, e1, _⟩ := DataW.trod_int Tryz.underlying3 h1
      obtain ⟨x2, e2, _⟩ := DataW.trod_int Tryz.underlying3 h2
      obtain ⟨x3, e3, _, hm⟩ := DataW.trod_string Tryz.underlying9 h3
      obtain ⟨x6, e6, _⟩ := DataW.trod_int Tryz.underlying3 h5
      obtain ⟨z0, z1, k, _, _, g0, g1⟩ := trod_struct2 Tryz.underlying23 h4
      simp only [cells3, List.drop_zero, List.drop_succ_cons, List.take_succ_cons, List.take_zero] at g0 g1
      obtain ⟨x4, e4, _⟩ := DataW.trod_int Tryz.underlying3 g0
      obtain ⟨x5, e5, _⟩ := DataW.trod_int Tryz.underlying3 g1
      refine ⟨⟨x0, x1, x2, x3, x4, x5, x6⟩, ?_, by simpa [maxLen] using hm⟩
      injection e0 with e0
      injection e1 with e1
      injection e2 with e2
      injection e3 with e3
      injection e4 with e4
      injection e5 with e5
      injection e6 with e6
      rw [e0, e1, e2, e3, e4, e5, e6]
      rfl
instance : Inhabited Eqv := ⟨⟨0, 0, 0, ⟨#[]⟩, 0, 0, 0⟩⟩
set_option maxRecDepth 1000000 in
theorem str_open {H : Type} {enc : TypeId × Value → H} {W : World} {base : Nat} {sp : Nat → Bool} {held : Bool} {b0 : Nat} {v : Value} {d : DataW H} {p : List MemPlace}
    (hv : Value.okWide Tryz.prog W .any b0 9 v) (h : DataW.Trod enc Tryz.prog W base sp held 9 v d p) : ∃ s : ByteArray, v = .string s ∧ s.size ≤ 9223372036854775807 := by
  obtain ⟨s0, rfl⟩ := okWide_string Tryz.underlying9 hv
  obtain ⟨fuel, hf⟩ := h
  obtain ⟨s, hs, _, hm⟩ := DataW.trod_string Tryz.underlying9 hf
  have e : s0 = s := by simpa [Value.cells] using hs
  subst e
  exact ⟨s0, rfl, by simpa [maxLen] using hm⟩
set_option maxRecDepth 1000000 in
theorem equal_open {H : Type} {enc : TypeId × Value → H} {W : World} {base : Nat} {sp : Nat → Bool} {held : Bool} {b0 : Nat} {v : Value} {d : DataW H} {p : List MemPlace}
    (hv : Value.okWide Tryz.prog W .any b0 37 v) (h : DataW.Trod enc Tryz.prog W base sp held 37 v d p) : ∃ e : Eqv, v = eqV e ∧ e.sort.size ≤ 9223372036854775807 := by
  obtain ⟨cs, rfl, hsz⟩ := okWide_struct Tryz.underlying37 hv
  obtain ⟨fuel, hf⟩ := h
  obtain ⟨e, he, hs⟩ := eq_read hf
  refine ⟨e, ?_, hs⟩
  simp only [Value.cells] at he
  cases cs
  simp only at he
  subst he
  rfl
set_option maxRecDepth 1000000 in
theorem table_open {H : Type} {enc : TypeId × Value → H} {W : World} {base : Nat} {sp : Nat → Bool} {held : Bool} {b0 : Nat} {v : Value} {d : DataW H} {p : List MemPlace}
    (hv : Value.okWide Tryz.prog W .any b0 35 v) (h : DataW.Trod enc Tryz.prog W base sp held 35 v d p) :
    ∃ A n c xs, v = .slice A n c ∧ TabA W A n c xs := by
  obtain ⟨A0, n0, c0, rfl⟩ := okWide_slice Tryz.underlying35 hv
  obtain ⟨fuel, hf⟩ := h
  rcases open_slice Tryz.underlying35 hf with ⟨h0, _⟩ | ⟨a, len, cap, m, n, D, Pl, hcs, hb, hl, hm, hmm, hx, hi⟩
  · simp only [Value.cells] at h0
    obtain ⟨rfl, rfl, rfl⟩ : A0 = none ∧ n0 = 0 ∧ c0 = 0 := by simpa using h0
    exact ⟨none, 0, 0, [], rfl, rfl, by omega, by omega, fun x hx => (by cases hx), fun h => by omega⟩
  · simp only [Value.cells] at hcs
    obtain ⟨rfl, rfl, rfl⟩ : A0 = some a ∧ n0 = len ∧ c0 = cap := by simpa using hcs
    have hlm : n0 ≤ m := by rw [hmm]; split <;> omega
    have key : ∀ i, i < n0 → ∃ e : Eqv, (∀ j v, (eqCells e)[j]? = some v → W.cell? ((a.add (i * 7)).add j) = some v) ∧ e.sort.size ≤ 9223372036854775807 := by
      intro i hin
      obtain ⟨cs', hc, ht⟩ := hi i (by omega)
      rw [cells37] at hc
      obtain ⟨e, he, hs⟩ := eq_read ht
      obtain ⟨_, hcl, hat⟩ := World.cells?_some hc
      refine ⟨e, fun j v hj => ?_, hs⟩
      subst he
      have hjl := (List.getElem?_eq_some_iff.1 hj).1
      have := hat j (by simpa [eqCells] using hjl)
      rw [this, hj]
    obtain ⟨q, hq⟩ := choose_lt key
    refine ⟨some a, n0, c0, (List.range n0).map q, rfl, by simp, hl, by simpa [maxLen] using hm, fun x hx => ?_, fun hn => ?_⟩
    · rw [List.mem_map] at hx
      obtain ⟨i, hir, rfl⟩ := hx
      exact (hq i (List.mem_range.1 hir)).2
    · have h0 := (hq 0 hn).1 0 _ rfl
      have ea : (a.add (0 * 7)).add 0 = a := by simp [Addr.add]
      rw [ea] at h0
      have hA := addr_at h0
      refine ⟨a.block, a.off, congrArg some hA, fun i p hp => ?_⟩
      have hin : i < n0 := by
        have := (List.getElem?_eq_some_iff.1 hp).1
        simpa using this
      have e : p = q i := by
        rw [List.getElem?_map, List.getElem?_range hin] at hp
        simpa using hp.symm
      subst e
      have c := (hq i hin).1
      rw [hA, add_plain] at c
      exact ⟨c 0 _ rfl, c 1 _ rfl, c 2 _ rfl, c 3 _ rfl, c 4 _ rfl, c 5 _ rfl, c 6 _ rfl⟩
end Go.Proofs.YtcjpecdnenemaaaGreatDoor
