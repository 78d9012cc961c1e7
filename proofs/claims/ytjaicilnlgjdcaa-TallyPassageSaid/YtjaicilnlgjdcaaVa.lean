/- opening a law's arguments; arguments read behind the call as before -/
import Derived.Test.YtjaicilnlgjdcaaUf
import Derived.Test.YtjaicilnlgjdcaaRows
import Derived.Deep.Slices
import Derived.Deep.Fields
import Derived.ChangeSame
import Derived.ChangeVars
import Derived.JoinedOf
import Derived.ProofKit
import Derived.OpenShut
import Derived.Carry
import Derived.Deep.MidRow
import Derived.Lib.SmallJoins
namespace Go.Proofs.Ytjaicilnlgjdcaa
set_option linter.all false
open Go.ChangeShapes Go.WideShapes Go.ChangeAt Go.RowKit Go.Deep

theorem own_ : ownKnob Try.prog.godebug = none := by kernel_rfl
theorem f_laidOut : laidOutB Try.prog = true := by kernel_rfl
section
variable {H : Type} {enc : TypeId × Value → H} {P : Program} {w : World} {base : Nat} {spare : Nat → Bool} {held : Bool}
/-- the arguments read behind the call as before it -/
theorem args_stay : ∀ (ts : List TypeId) (vs : List Value) (ds : List (DataW H)) (ps : List MemPlace) {W W' : World}, laidOutB P = true → (ts.all fun t => P.readableRec t && decide (t < P.types.size)) = true →
    DataW.TrodAll enc P W 0 (fun _ => true) true ts vs ds ps → Below W.heap.size W W' → (∀ x ∈ ps, x.block < W.heap.size) → DataW.TrodAll enc P W' 0 (fun b => decide (b < W.heap.size)) true ts vs ds ps
  | [], vs, ds, ps, W, W', hl, hr, h, hb, hp => by
    obtain ⟨rfl, rfl, rfl⟩ := trodAll_nil h
    exact trodAll_mk0
  | t :: ts, vs, ds, ps, W, W', hl, hr, h, hb, hp => by
    obtain ⟨v, vs', d, ds', p, q, rfl, rfl, rfl, hd, hrest⟩ := trodAll_cons h
    simp only [List.all_cons, Bool.and_eq_true, decide_eq_true_eq] at hr
    exact ⟨p, q, Below.trod hl hr.1.1 hr.1.2 hd hb (fun x hx => hp x (List.mem_append_left _ hx)), args_stay ts vs' ds' q hl hr.2 hrest hb (fun x hx => hp x (List.mem_append_right _ hx)), rfl⟩
end
theorem addr_at {w : World} {a : Addr} {v : Value} (h : w.cell? a = some v) : a = ⟨a.block, a.off, none⟩ := by
  have := World.cell?_spot h
  cases a
  simp_all
theorem addr_add (b off j : Nat) : (⟨b, off, none⟩ : Addr).add j = ⟨b, off + j, none⟩ := by simp [Addr.add]
theorem choose_lt {α : Type} {n : Nat} {p : Nat → α → Prop} [Inhabited α] (h : ∀ i, i < n → ∃ x, p i x) : ∃ f : Nat → α, ∀ i, i < n → p i (f i) := by
  refine ⟨fun i => if hi : i < n then Classical.choose (h i hi) else default, fun i hi => ?_⟩
  simp only [hi, dif_pos]
  exact Classical.choose_spec (h i hi)
theorem wf_bd {x : Int} (h : (Lit.int .i64 x).wf = true) : -9223372036854775808 ≤ x ∧ x ≤ 9223372036854775807 := by
  have e1 : IntKind.i64.min = -9223372036854775808 := rfl
  have e2 : IntKind.i64.max = 9223372036854775807 := rfl
  simp [Lit.wf, e1, e2] at h
  omega
theorem cells3 : Try.prog.cellsOf 3 = 1 := by kernel_rfl
theorem cells4 : Try.prog.cellsOf 4 = 1 := by kernel_rfl
def okI (x : Int) : Prop := -9223372036854775808 ≤ x ∧ x ≤ 9223372036854775807
instance : Inhabited Rcn := ⟨⟨0, 0, 0, 0, 0, 0⟩⟩
structure Iv where
  lo : Int
  hi : Int
  so : Bool
instance : Inhabited Iv := ⟨⟨0, 0, false⟩⟩
structure Rt where
  m : Int
  d : Int
instance : Inhabited Rt := ⟨⟨0, 0⟩⟩
structure Ct where
  id : Int
  dy : Int
  sh : Int
  nu : Int
  wo : Int
instance : Inhabited Ct := ⟨⟨0, 0, 0, 0, 0⟩⟩
def ivCells (x : Iv) : List Value := [.int .i64 x.lo, .int .i64 x.hi, .bool x.so]
def rtCells (x : Rt) : List Value := [.int .i64 x.m, .int .i64 x.d]
def ctCells (x : Ct) : List Value := [.int .i64 x.id, .int .i64 x.dy, .int .i64 x.sh, .int .i64 x.nu, .int .i64 x.wo]
def okIv (x : Iv) : Prop := okI x.lo ∧ okI x.hi
def okRt (x : Rt) : Prop := okI x.m ∧ okI x.d
def okCt (x : Ct) : Prop := okI x.id ∧ okI x.dy ∧ okI x.sh ∧ okI x.nu ∧ okI x.wo
def okRc (x : Rcn) : Prop := okI x.id ∧ okI x.dy ∧ okI x.kn ∧ okI x.sh ∧ okI x.tr ∧ okI x.nu
theorem cells34 : Try.prog.cellsOf 34 = 3 := by kernel_rfl
set_option maxRecDepth 1000000 in
theorem iv_read {H : Type} {enc : TypeId × Value → H} {W : World} {base : Nat} {sp : Nat → Bool} {held : Bool} {fuel : Nat} {cs : List Value} {x : DataW H × List MemPlace}
    (h : DataW.trod enc Try.prog W base sp held fuel 34 cs = some x) : ∃ e : Iv, cs = ivCells e ∧ okIv e := by
  obtain ⟨xs, n, _, _, hl, hlen, hf⟩ := DataW.trod_struct Try.underlying34 h
  rw [cells34] at hl
  match cs, hl with
  | [c0, c1, c2], _ =>
    match xs, hlen with
    | [y0, y1, y2], _ =>
      have h0 := hf 0 _ rfl
      have h1 := hf 1 _ rfl
      have h2 := hf 2 _ rfl
      simp only [cells3, cells4, List.drop_zero, List.drop_succ_cons, List.take_succ_cons, List.take_zero, List.getElem?_cons_zero, List.getElem?_cons_succ] at h0 h1 h2
      obtain ⟨x0, e0, _, w0⟩ := DataW.trod_int Try.underlying3 h0
      obtain ⟨x1, e1, _, w1⟩ := DataW.trod_int Try.underlying3 h1
      obtain ⟨x2, e2, _⟩ := DataW.trod_bool Try.underlying4 h2
      refine ⟨⟨x0, x1, x2⟩, ?_, wf_bd w0, wf_bd w1⟩
      injection e0 with e0
      injection e1 with e1
      injection e2 with e2
      rw [e0, e1, e2]
      rfl
set_option maxRecDepth 1000000 in
theorem iv_open {H : Type} {enc : TypeId × Value → H} {W : World} {base : Nat} {sp : Nat → Bool} {held : Bool} {b0 : Nat} {v : Value} {d : DataW H} {p : List MemPlace}
    (hv : Value.okWide Try.prog W .any b0 34 v) (h : DataW.Trod enc Try.prog W base sp held 34 v d p) : ∃ e : Iv, v = .agg (ivCells e).toArray ∧ okIv e := by
  obtain ⟨cs, rfl, hsz⟩ := okWide_struct Try.underlying34 hv
  obtain ⟨fuel, hf⟩ := h
  obtain ⟨e, he, hs⟩ := iv_read hf
  refine ⟨e, ?_, hs⟩
  simp only [Value.cells] at he
  cases cs
  simp only at he
  subst he
  rfl
theorem cells23 : Try.prog.cellsOf 23 = 2 := by kernel_rfl
set_option maxRecDepth 1000000 in
theorem rt_read {H : Type} {enc : TypeId × Value → H} {W : World} {base : Nat} {sp : Nat → Bool} {held : Bool} {fuel : Nat} {cs : List Value} {x : DataW H × List MemPlace}
    (h : DataW.trod enc Try.prog W base sp held fuel 23 cs = some x) : ∃ e : Rt, cs = rtCells e ∧ okRt e := by
  obtain ⟨xs, n, _, _, hl, hlen, hf⟩ := DataW.trod_struct Try.underlying23 h
  rw [cells23] at hl
  match cs, hl with
  | [c0, c1], _ =>
    match xs, hlen with
    | [y0, y1], _ =>
      have h0 := hf 0 _ rfl
      have h1 := hf 1 _ rfl
      simp only [cells3, cells4, List.drop_zero, List.drop_succ_cons, List.take_succ_cons, List.take_zero, List.getElem?_cons_zero, List.getElem?_cons_succ] at h0 h1
      obtain ⟨x0, e0, _, w0⟩ := DataW.trod_int Try.underlying3 h0
      obtain ⟨x1, e1, _, w1⟩ := DataW.trod_int Try.underlying3 h1
      refine ⟨⟨x0, x1⟩, ?_, wf_bd w0, wf_bd w1⟩
      injection e0 with e0
      injection e1 with e1
      rw [e0, e1]
      rfl
set_option maxRecDepth 1000000 in
theorem rt_open {H : Type} {enc : TypeId × Value → H} {W : World} {base : Nat} {sp : Nat → Bool} {held : Bool} {b0 : Nat} {v : Value} {d : DataW H} {p : List MemPlace}
    (hv : Value.okWide Try.prog W .any b0 23 v) (h : DataW.Trod enc Try.prog W base sp held 23 v d p) : ∃ e : Rt, v = .agg (rtCells e).toArray ∧ okRt e := by
  obtain ⟨cs, rfl, hsz⟩ := okWide_struct Try.underlying23 hv
  obtain ⟨fuel, hf⟩ := h
  obtain ⟨e, he, hs⟩ := rt_read hf
  refine ⟨e, ?_, hs⟩
  simp only [Value.cells] at he
  cases cs
  simp only at he
  subst he
  rfl
theorem cells25 : Try.prog.cellsOf 25 = 5 := by kernel_rfl
set_option maxRecDepth 1000000 in
theorem ct_read {H : Type} {enc : TypeId × Value → H} {W : World} {base : Nat} {sp : Nat → Bool} {held : Bool} {fuel : Nat} {cs : List Value} {x : DataW H × List MemPlace}
    (h : DataW.trod enc Try.prog W base sp held fuel 25 cs = some x) : ∃ e : Ct, cs = ctCells e ∧ okCt e := by
  obtain ⟨xs, n, _, _, hl, hlen, hf⟩ := DataW.trod_struct Try.underlying25 h
  rw [cells25] at hl
  match cs, hl with
  | [c0, c1, c2, c3, c4], _ =>
    match xs, hlen with
    | [y0, y1, y2, y3, y4], _ =>
      have h0 := hf 0 _ rfl
      have h1 := hf 1 _ rfl
      have h2 := hf 2 _ rfl
      have h3 := hf 3 _ rfl
      have h4 := hf 4 _ rfl
      simp only [cells3, cells4, List.drop_zero, List.drop_succ_cons, List.take_succ_cons, List.take_zero, List.getElem?_cons_zero, List.getElem?_cons_succ] at h0 h1 h2 h3 h4
      obtain ⟨x0, e0, _, w0⟩ := DataW.trod_int Try.underlying3 h0
      obtain ⟨x1, e1, _, w1⟩ := DataW.trod_int Try.underlying3 h1
      obtain ⟨x2, e2, _, w2⟩ := DataW.trod_int Try.underlying3 h2
      obtain ⟨x3, e3, _, w3⟩ := DataW.trod_int Try.underlying3 h3
      obtain ⟨x4, e4, _, w4⟩ := DataW.trod_int Try.underlying3 h4
      refine ⟨⟨x0, x1, x2, x3, x4⟩, ?_, wf_bd w0, wf_bd w1, wf_bd w2, wf_bd w3, wf_bd w4⟩
      injection e0 with e0
      injection e1 with e1
      injection e2 with e2
      injection e3 with e3
      injection e4 with e4
      rw [e0, e1, e2, e3, e4]
      rfl
set_option maxRecDepth 1000000 in
theorem ct_open {H : Type} {enc : TypeId × Value → H} {W : World} {base : Nat} {sp : Nat → Bool} {held : Bool} {b0 : Nat} {v : Value} {d : DataW H} {p : List MemPlace}
    (hv : Value.okWide Try.prog W .any b0 25 v) (h : DataW.Trod enc Try.prog W base sp held 25 v d p) : ∃ e : Ct, v = .agg (ctCells e).toArray ∧ okCt e := by
  obtain ⟨cs, rfl, hsz⟩ := okWide_struct Try.underlying25 hv
  obtain ⟨fuel, hf⟩ := h
  obtain ⟨e, he, hs⟩ := ct_read hf
  refine ⟨e, ?_, hs⟩
  simp only [Value.cells] at he
  cases cs
  simp only at he
  subst he
  rfl
theorem cells76 : Try.prog.cellsOf 76 = 6 := by kernel_rfl
set_option maxRecDepth 1000000 in
theorem rc_read {H : Type} {enc : TypeId × Value → H} {W : World} {base : Nat} {sp : Nat → Bool} {held : Bool} {fuel : Nat} {cs : List Value} {x : DataW H × List MemPlace}
    (h : DataW.trod enc Try.prog W base sp held fuel 76 cs = some x) : ∃ e : Rcn, cs = rcCells e ∧ okRc e := by
  obtain ⟨xs, n, _, _, hl, hlen, hf⟩ := DataW.trod_struct Try.underlying76 h
  rw [cells76] at hl
  match cs, hl with
  | [c0, c1, c2, c3, c4, c5], _ =>
    match xs, hlen with
    | [y0, y1, y2, y3, y4, y5], _ =>
      have h0 := hf 0 _ rfl
      have h1 := hf 1 _ rfl
      have h2 := hf 2 _ rfl
      have h3 := hf 3 _ rfl
      have h4 := hf 4 _ rfl
      have h5 := hf 5 _ rfl
      simp only [cells3, cells4, List.drop_zero, List.drop_succ_cons, List.take_succ_cons, List.take_zero, List.getElem?_cons_zero, List.getElem?_cons_succ] at h0 h1 h2 h3 h4 h5
      obtain ⟨x0, e0, _, w0⟩ := DataW.trod_int Try.underlying3 h0
      obtain ⟨x1, e1, _, w1⟩ := DataW.trod_int Try.underlying3 h1
      obtain ⟨x2, e2, _, w2⟩ := DataW.trod_int Try.underlying3 h2
      obtain ⟨x3, e3, _, w3⟩ := DataW.trod_int Try.underlying3 h3
      obtain ⟨x4, e4, _, w4⟩ := DataW.trod_int Try.underlying3 h4
      obtain ⟨x5, e5, _, w5⟩ := DataW.trod_int Try.underlying3 h5
      refine ⟨⟨x0, x1, x2, x3, x4, x5⟩, ?_, wf_bd w0, wf_bd w1, wf_bd w2, wf_bd w3, wf_bd w4, wf_bd w5⟩
      injection e0 with e0
      injection e1 with e1
      injection e2 with e2
      injection e3 with e3
      injection e4 with e4
      injection e5 with e5
      rw [e0, e1, e2, e3, e4, e5]
      rfl
set_option maxRecDepth 1000000 in
theorem rc_open {H : Type} {enc : TypeId × Value → H} {W : World} {base : Nat} {sp : Nat → Bool} {held : Bool} {b0 : Nat} {v : Value} {d : DataW H} {p : List MemPlace}
    (hv : Value.okWide Try.prog W .any b0 76 v) (h : DataW.Trod enc Try.prog W base sp held 76 v d p) : ∃ e : Rcn, v = .agg (rcCells e).toArray ∧ okRc e := by
  obtain ⟨cs, rfl, hsz⟩ := okWide_struct Try.underlying76 hv
  obtain ⟨fuel, hf⟩ := h
  obtain ⟨e, he, hs⟩ := rc_read hf
  refine ⟨e, ?_, hs⟩
  simp only [Value.cells] at he
  cases cs
  simp only at he
  subst he
  rfl
set_option maxRecDepth 1000000 in
theorem int_read {H : Type} {enc : TypeId × Value → H} {W : World} {base : Nat} {sp : Nat → Bool} {held : Bool} {fuel : Nat} {cs : List Value} {x : DataW H × List MemPlace} (hl : cs.length = 1)
    (h : DataW.trod enc Try.prog W base sp held fuel 3 cs = some x) : ∃ e : Int, cs = [.int .i64 e] ∧ okI e := by
  match cs, hl with
  | [c0], _ =>
    obtain ⟨x0, e0, _, w0⟩ := DataW.trod_int Try.underlying3 h
    injection e0 with e0
    exact ⟨x0, by rw [e0], wf_bd w0⟩
/-- elements of k cells each, as a table -/
def TabK (k : Nat) {α : Type} (cl : α → List Value) (w : World) (b off : Nat) (xs : List α) : Prop := ∀ i x, xs[i]? = some x → ∀ j v, (cl x)[j]? = some v → w.cell? ⟨b, off + i * k + j, none⟩ = some v
def SliK (k : Nat) {α : Type} (cl : α → List Value) (w : World) (A : Option Addr) (n c : Nat) (xs : List α) : Prop :=
  xs.length = n ∧ n ≤ c ∧ c ≤ 9223372036854775807 ∧ (0 < n → ∃ b off, A = some ⟨b, off, none⟩ ∧ TabK k cl w b off xs)
theorem SliK.kept {k : Nat} {α : Type} {cl : α → List Value} {w w' : World} {A : Option Addr} {n c : Nat} {xs : List α} (h : SliK k cl w A n c xs) (hk : Kept w w') : SliK k cl w' A n c xs :=
  ⟨h.1, h.2.1, h.2.2.1, fun hn => by
    obtain ⟨b, off, e, ht⟩ := h.2.2.2 hn
    exact ⟨b, off, e, fun i x hx j v hv => (hk.cells _ _ (cell_lt (ht i x hx j v hv))).trans (ht i x hx j v hv)⟩⟩
set_option maxRecDepth 1000000 in
theorem ivs_open {H : Type} {enc : TypeId × Value → H} {W : World} {base : Nat} {sp : Nat → Bool} {held : Bool} {b0 : Nat} {v : Value} {d : DataW H} {p : List MemPlace}
    (hv : Value.okWide Try.prog W .any b0 42 v) (h : DataW.Trod enc Try.prog W base sp held 42 v d p) :
    ∃ A n c xs, v = .slice A n c ∧ SliK 3 ivCells W A n c (xs : List Iv) ∧ (∀ x ∈ xs, okIv x) := by
  obtain ⟨A0, n0, c0, rfl⟩ := okWide_slice Try.underlying42 hv
  obtain ⟨fuel, hf⟩ := h
  rcases open_slice Try.underlying42 hf with ⟨h0, _⟩ | ⟨a, len, cap, m, n, D, Pl, hcs, hb, hl, hm, hmm, hx, hi⟩
  · simp only [Value.cells] at h0
    obtain ⟨rfl, rfl, rfl⟩ : A0 = none ∧ n0 = 0 ∧ c0 = 0 := by simpa using h0
    exact ⟨none, 0, 0, [], rfl, ⟨rfl, by omega, by omega, fun h => by omega⟩, fun x hx => by cases hx⟩
  · simp only [Value.cells] at hcs
    obtain ⟨rfl, rfl, rfl⟩ : A0 = some a ∧ n0 = len ∧ c0 = cap := by simpa using hcs
    have hlm : n0 ≤ m := by rw [hmm]; split <;> omega
    have key : ∀ i, i < n0 → ∃ e : Iv, (∀ j v, (ivCells e)[j]? = some v → W.cell? ((a.add (i * 3)).add j) = some v) ∧ okIv e := by
      intro i hin
      obtain ⟨cs', hc, ht⟩ := hi i (by omega)
      rw [cells34] at hc
      obtain ⟨_, hcl, hat⟩ := World.cells?_some hc
      obtain ⟨e, he, hs⟩ := iv_read ht
      refine ⟨e, fun j v hj => ?_, hs⟩
      subst he
      have hjl := (List.getElem?_eq_some_iff.1 hj).1
      have := hat j (by simpa [ivCells] using hjl)
      rw [this, hj]
    obtain ⟨q, hq⟩ := choose_lt key
    refine ⟨some a, n0, c0, (List.range n0).map q, rfl, ⟨by simp, hl, by simpa [maxLen] using hm, fun hn => ?_⟩, fun x hx => ?_⟩
    · have h0 := (hq 0 hn).1 0 _ rfl
      have ea : (a.add (0 * 3)).add 0 = a := by simp [Addr.add]
      rw [ea] at h0
      have hA := addr_at h0
      refine ⟨a.block, a.off, congrArg some hA, fun i p hp j v hv => ?_⟩
      have hin : i < n0 := by
        have := (List.getElem?_eq_some_iff.1 hp).1
        simpa using this
      have e : p = q i := by
        rw [List.getElem?_map, List.getElem?_range hin] at hp
        simpa using hp.symm
      subst e
      have := (hq i hin).1 j v hv
      rw [hA, addr_add, addr_add] at this
      exact this
    · rw [List.mem_map] at hx
      obtain ⟨i, hir, rfl⟩ := hx
      exact (hq i (List.mem_range.1 hir)).2
set_option maxRecDepth 1000000 in
theorem rts_open {H : Type} {enc : TypeId × Value → H} {W : World} {base : Nat} {sp : Nat → Bool} {held : Bool} {b0 : Nat} {v : Value} {d : DataW H} {p : List MemPlace}
    (hv : Value.okWide Try.prog W .any b0 46 v) (h : DataW.Trod enc Try.prog W base sp held 46 v d p) :
    ∃ A n c xs, v = .slice A n c ∧ SliK 2 rtCells W A n c (xs : List Rt) ∧ (∀ x ∈ xs, okRt x) := by
  obtain ⟨A0, n0, c0, rfl⟩ := okWide_slice Try.underlying46 hv
  obtain ⟨fuel, hf⟩ := h
  rcases open_slice Try.underlying46 hf with ⟨h0, _⟩ | ⟨a, len, cap, m, n, D, Pl, hcs, hb, hl, hm, hmm, hx, hi⟩
  · simp only [Value.cells] at h0
    obtain ⟨rfl, rfl, rfl⟩ : A0 = none ∧ n0 = 0 ∧ c0 = 0 := by simpa using h0
    exact ⟨none, 0, 0, [], rfl, ⟨rfl, by omega, by omega, fun h => by omega⟩, fun x hx => by cases hx⟩
  · simp only [Value.cells] at hcs
    obtain ⟨rfl, rfl, rfl⟩ : A0 = some a ∧ n0 = len ∧ c0 = cap := by simpa using hcs
    have hlm : n0 ≤ m := by rw [hmm]; split <;> omega
    have key : ∀ i, i < n0 → ∃ e : Rt, (∀ j v, (rtCells e)[j]? = some v → W.cell? ((a.add (i * 2)).add j) = some v) ∧ okRt e := by
      intro i hin
      obtain ⟨cs', hc, ht⟩ := hi i (by omega)
      rw [cells23] at hc
      obtain ⟨_, hcl, hat⟩ := World.cells?_some hc
      obtain ⟨e, he, hs⟩ := rt_read ht
      refine ⟨e, fun j v hj => ?_, hs⟩
      subst he
      have hjl := (List.getElem?_eq_some_iff.1 hj).1
      have := hat j (by simpa [rtCells] using hjl)
      rw [this, hj]
    obtain ⟨q, hq⟩ := choose_lt key
    refine ⟨some a, n0, c0, (List.range n0).map q, rfl, ⟨by simp, hl, by simpa [maxLen] using hm, fun hn => ?_⟩, fun x hx => ?_⟩
    · have h0 := (hq 0 hn).1 0 _ rfl
      have ea : (a.add (0 * 2)).add 0 = a := by simp [Addr.add]
      rw [ea] at h0
      have hA := addr_at h0
      refine ⟨a.block, a.off, congrArg some hA, fun i p hp j v hv => ?_⟩
      have hin : i < n0 := by
        have := (List.getElem?_eq_some_iff.1 hp).1
        simpa using this
      have e : p = q i := by
        rw [List.getElem?_map, List.getElem?_range hin] at hp
        simpa using hp.symm
      subst e
      have := (hq i hin).1 j v hv
      rw [hA, addr_add, addr_add] at this
      exact this
    · rw [List.mem_map] at hx
      obtain ⟨i, hir, rfl⟩ := hx
      exact (hq i (List.mem_range.1 hir)).2
set_option maxRecDepth 1000000 in
theorem cts_open {H : Type} {enc : TypeId × Value → H} {W : World} {base : Nat} {sp : Nat → Bool} {held : Bool} {b0 : Nat} {v : Value} {d : DataW H} {p : List MemPlace}
    (hv : Value.okWide Try.prog W .any b0 47 v) (h : DataW.Trod enc Try.prog W base sp held 47 v d p) :
    ∃ A n c xs, v = .slice A n c ∧ SliK 5 ctCells W A n c (xs : List Ct) ∧ (∀ x ∈ xs, okCt x) := by
  obtain ⟨A0, n0, c0, rfl⟩ := okWide_slice Try.underlying47 hv
  obtain ⟨fuel, hf⟩ := h
  rcases open_slice Try.underlying47 hf with ⟨h0, _⟩ | ⟨a, len, cap, m, n, D, Pl, hcs, hb, hl, hm, hmm, hx, hi⟩
  · simp only [Value.cells] at h0
    obtain ⟨rfl, rfl, rfl⟩ : A0 = none ∧ n0 = 0 ∧ c0 = 0 := by simpa using h0
    exact ⟨none, 0, 0, [], rfl, ⟨rfl, by omega, by omega, fun h => by omega⟩, fun x hx => by cases hx⟩
  · simp only [Value.cells] at hcs
    obtain ⟨rfl, rfl, rfl⟩ : A0 = some a ∧ n0 = len ∧ c0 = cap := by simpa using hcs
    have hlm : n0 ≤ m := by rw [hmm]; split <;> omega
    have key : ∀ i, i < n0 → ∃ e : Ct, (∀ j v, (ctCells e)[j]? = some v → W.cell? ((a.add (i * 5)).add j) = some v) ∧ okCt e := by
      intro i hin
      obtain ⟨cs', hc, ht⟩ := hi i (by omega)
      rw [cells25] at hc
      obtain ⟨_, hcl, hat⟩ := World.cells?_some hc
      obtain ⟨e, he, hs⟩ := ct_read ht
      refine ⟨e, fun j v hj => ?_, hs⟩
      subst he
      have hjl := (List.getElem?_eq_some_iff.1 hj).1
      have := hat j (by simpa [ctCells] using hjl)
      rw [this, hj]
    obtain ⟨q, hq⟩ := choose_lt key
    refine ⟨some a, n0, c0, (List.range n0).map q, rfl, ⟨by simp, hl, by simpa [maxLen] using hm, fun hn => ?_⟩, fun x hx => ?_⟩
    · have h0 := (hq 0 hn).1 0 _ rfl
      have ea : (a.add (0 * 5)).add 0 = a := by simp [Addr.add]
      rw [ea] at h0
      have hA := addr_at h0
      refine ⟨a.block, a.off, congrArg some hA, fun i p hp j v hv => ?_⟩
      have hin : i < n0 := by
        have := (List.getElem?_eq_some_iff.1 hp).1
        simpa using this
      have e : p = q i := by
        rw [List.getElem?_map, List.getElem?_range hin] at hp
        simpa using hp.symm
      subst e
      have := (hq i hin).1 j v hv
      rw [hA, addr_add, addr_add] at this
      exact this
    · rw [List.mem_map] at hx
      obtain ⟨i, hir, rfl⟩ := hx
      exact (hq i (List.mem_range.1 hir)).2
set_option maxRecDepth 1000000 in
theorem rcs_open {H : Type} {enc : TypeId × Value → H} {W : World} {base : Nat} {sp : Nat → Bool} {held : Bool} {b0 : Nat} {v : Value} {d : DataW H} {p : List MemPlace}
    (hv : Value.okWide Try.prog W .any b0 56 v) (h : DataW.Trod enc Try.prog W base sp held 56 v d p) :
    ∃ A n c xs, v = .slice A n c ∧ SliK 6 rcCells W A n c (xs : List Rcn) ∧ (∀ x ∈ xs, okRc x) := by
  obtain ⟨A0, n0, c0, rfl⟩ := okWide_slice Try.underlying56 hv
  obtain ⟨fuel, hf⟩ := h
  rcases open_slice Try.underlying56 hf with ⟨h0, _⟩ | ⟨a, len, cap, m, n, D, Pl, hcs, hb, hl, hm, hmm, hx, hi⟩
  · simp only [Value.cells] at h0
    obtain ⟨rfl, rfl, rfl⟩ : A0 = none ∧ n0 = 0 ∧ c0 = 0 := by simpa using h0
    exact ⟨none, 0, 0, [], rfl, ⟨rfl, by omega, by omega, fun h => by omega⟩, fun x hx => by cases hx⟩
  · simp only [Value.cells] at hcs
    obtain ⟨rfl, rfl, rfl⟩ : A0 = some a ∧ n0 = len ∧ c0 = cap := by simpa using hcs
    have hlm : n0 ≤ m := by rw [hmm]; split <;> omega
    have key : ∀ i, i < n0 → ∃ e : Rcn, (∀ j v, (rcCells e)[j]? = some v → W.cell? ((a.add (i * 6)).add j) = some v) ∧ okRc e := by
      intro i hin
      obtain ⟨cs', hc, ht⟩ := hi i (by omega)
      rw [cells76] at hc
      obtain ⟨_, hcl, hat⟩ := World.cells?_some hc
      obtain ⟨e, he, hs⟩ := rc_read ht
      refine ⟨e, fun j v hj => ?_, hs⟩
      subst he
      have hjl := (List.getElem?_eq_some_iff.1 hj).1
      have := hat j (by simpa [rcCells] using hjl)
      rw [this, hj]
    obtain ⟨q, hq⟩ := choose_lt key
    refine ⟨some a, n0, c0, (List.range n0).map q, rfl, ⟨by simp, hl, by simpa [maxLen] using hm, fun hn => ?_⟩, fun x hx => ?_⟩
    · have h0 := (hq 0 hn).1 0 _ rfl
      have ea : (a.add (0 * 6)).add 0 = a := by simp [Addr.add]
      rw [ea] at h0
      have hA := addr_at h0
      refine ⟨a.block, a.off, congrArg some hA, fun i p hp j v hv => ?_⟩
      have hin : i < n0 := by
        have := (List.getElem?_eq_some_iff.1 hp).1
        simpa using this
      have e : p = q i := by
        rw [List.getElem?_map, List.getElem?_range hin] at hp
        simpa using hp.symm
      subst e
      have := (hq i hin).1 j v hv
      rw [hA, addr_add, addr_add] at this
      exact this
    · rw [List.mem_map] at hx
      obtain ⟨i, hir, rfl⟩ := hx
      exact (hq i (List.mem_range.1 hir)).2
set_option maxRecDepth 1000000 in
theorem ints_open {H : Type} {enc : TypeId × Value → H} {W : World} {base : Nat} {sp : Nat → Bool} {held : Bool} {b0 : Nat} {v : Value} {d : DataW H} {p : List MemPlace}
    (hv : Value.okWide Try.prog W .any b0 48 v) (h : DataW.Trod enc Try.prog W base sp held 48 v d p) :
    ∃ A n c xs, v = .slice A n c ∧ SliK 1 (fun x => [Value.int .i64 x]) W A n c (xs : List Int) ∧ (∀ x ∈ xs, okI x) := by
  obtain ⟨A0, n0, c0, rfl⟩ := okWide_slice Try.underlying48 hv
  obtain ⟨fuel, hf⟩ := h
  rcases open_slice Try.underlying48 hf with ⟨h0, _⟩ | ⟨a, len, cap, m, n, D, Pl, hcs, hb, hl, hm, hmm, hx, hi⟩
  · simp only [Value.cells] at h0
    obtain ⟨rfl, rfl, rfl⟩ : A0 = none ∧ n0 = 0 ∧ c0 = 0 := by simpa using h0
    exact ⟨none, 0, 0, [], rfl, ⟨rfl, by omega, by omega, fun h => by omega⟩, fun x hx => by cases hx⟩
  · simp only [Value.cells] at hcs
    obtain ⟨rfl, rfl, rfl⟩ : A0 = some a ∧ n0 = len ∧ c0 = cap := by simpa using hcs
    have hlm : n0 ≤ m := by rw [hmm]; split <;> omega
    have key : ∀ i, i < n0 → ∃ e : Int, (∀ j v, ((fun x => [Value.int .i64 x]) e)[j]? = some v → W.cell? ((a.add (i * 1)).add j) = some v) ∧ okI e := by
      intro i hin
      obtain ⟨cs', hc, ht⟩ := hi i (by omega)
      rw [cells3] at hc
      obtain ⟨_, hcl, hat⟩ := World.cells?_some hc
      obtain ⟨e, he, hs⟩ := int_read hcl ht
      refine ⟨e, fun j v hj => ?_, hs⟩
      subst he
      have hjl := (List.getElem?_eq_some_iff.1 hj).1
      have := hat j (by simpa using hjl)
      rw [this, hj]
    obtain ⟨q, hq⟩ := choose_lt key
    refine ⟨some a, n0, c0, (List.range n0).map q, rfl, ⟨by simp, hl, by simpa [maxLen] using hm, fun hn => ?_⟩, fun x hx => ?_⟩
    · have h0 := (hq 0 hn).1 0 _ rfl
      have ea : (a.add (0 * 1)).add 0 = a := by simp [Addr.add]
      rw [ea] at h0
      have hA := addr_at h0
      refine ⟨a.block, a.off, congrArg some hA, fun i p hp j v hv => ?_⟩
      have hin : i < n0 := by
        have := (List.getElem?_eq_some_iff.1 hp).1
        simpa using this
      have e : p = q i := by
        rw [List.getElem?_map, List.getElem?_range hin] at hp
        simpa using hp.symm
      subst e
      have := (hq i hin).1 j v hv
      rw [hA, addr_add, addr_add] at this
      exact this
    · rw [List.mem_map] at hx
      obtain ⟨i, hir, rfl⟩ := hx
      exact (hq i (List.mem_range.1 hir)).2
theorem SliK.recs {w : World} {A : Option Addr} {n c : Nat} {xs : List Rcn} (h : SliK 6 rcCells w A n c xs) : RcA w A n c xs :=
  ⟨h.1, h.2.1, h.2.2.1, fun hn => by
    obtain ⟨b, off, e, ht⟩ := h.2.2.2 hn
    exact ⟨b, off, e, fun i x hx => ⟨ht i x hx 0 _ rfl, ht i x hx 1 _ rfl, ht i x hx 2 _ rfl, ht i x hx 3 _ rfl, ht i x hx 4 _ rfl, ht i x hx 5 _ rfl⟩⟩⟩
theorem SliK.ints {w : World} {A : Option Addr} {n c : Nat} {xs : List Int} (h : SliK 1 (fun x => [Value.int .i64 x]) w A n c xs) : IntA w A n c xs :=
  ⟨h.1, h.2.1, h.2.2.1, fun hn => by
    obtain ⟨b, off, e, ht⟩ := h.2.2.2 hn
    exact ⟨b, off, e, fun i x hx => by have := ht i x hx 0 _ rfl; simpa using this⟩⟩
end Go.Proofs.Ytjaicilnlgjdcaa
