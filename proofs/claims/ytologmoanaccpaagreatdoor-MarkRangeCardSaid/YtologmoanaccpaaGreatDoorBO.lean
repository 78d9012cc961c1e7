/-
  opening the law's arguments
  opening claims
-/
import Derived.Test.YtologmoanaccpaaGreatDoorBN
import Derived.Test.YtologmoanaccpaaGreatDoorRows
import Derived.Test.YtologmoanaccpaaGreatDoorFac
import Derived.ChangeSame
import Derived.ChangeVars
import Derived.JoinedOf
import Derived.ProofKit
import Derived.LaidMore
import Derived.LaidLaws
import Derived.LaidHandle
import Derived.MakeChecks
import Derived.Handed
import Derived.Carry
import Derived.Deep.DeepHandedRow
import Derived.Lib.LaidTab
import Derived.Lay
import Derived.Lib.SmallJoins
import Derived.Stop.Joined
import Derived.Deep.Slices
import Derived.Deep.Fields
import Derived.OpenShut
import Derived.Deep.MidRow
import Derived.Shelf.Vars
namespace Go.Proofs.YtologmoanaccpaaGreatDoor
set_option linter.all false
open Go.ChangeShapes Go.WideShapes Go.ChangeAt Go.RowKit Go.Shelf Go.Deep

theorem wf_i {x : Int} (h : (Lit.int .i64 x).wf = true) : i64 x := by
  have e1 : IntKind.i64.min = -9223372036854775808 := rfl
  have e2 : IntKind.i64.max = 9223372036854775807 := rfl
  simp [Lit.wf, e1, e2] at h
  unfold i64
  omega
theorem wf_u {x : Int} (h : (Lit.int .u8 x).wf = true) : u8 x := by
  have e1 : IntKind.u8.min = 0 := rfl
  have e2 : IntKind.u8.max = 255 := rfl
  simp [Lit.wf, e1, e2] at h
  unfold u8
  omega
theorem addr_at {w : World} {a : Addr} {v : Value} (h : w.cell? a = some v) : a = ⟨a.block, a.off, none⟩ := by
  have := World.cell?_spot h
  cases a
  simp_all
theorem cells3 : Tryz.prog.cellsOf 3 = 1 := by kernel_rfl
theorem cells5 : Tryz.prog.cellsOf 5 = 1 := by kernel_rfl
theorem cells30 : Tryz.prog.cellsOf 30 = 6 := by kernel_rfl
theorem cells39 : Tryz.prog.cellsOf 39 = 6 := by kernel_rfl
theorem cells32 : Tryz.prog.cellsOf 32 = 9 := by kernel_rfl
theorem cells87 : Tryz.prog.cellsOf 87 = 2 := by kernel_rfl
theorem cells25 : Tryz.prog.cellsOf 25 = 2 := by kernel_rfl
theorem cells22 : Tryz.prog.cellsOf 22 = 1 := by kernel_rfl
theorem cells23 : Tryz.prog.cellsOf 23 = 1 := by kernel_rfl
section
variable {H : Type} {enc : TypeId × Value → H} {W : World} {base : Nat} {sp : Nat → Bool} {held : Bool} {fuel : Nat} {x : DataW H × List MemPlace}
theorem in_read {cs : List Value} (hl : cs.length = 1) (h : DataW.trod enc Tryz.prog W base sp held fuel 3 cs = some x) : ∃ e : Int, cs = inC e ∧ i64 e := by
  match cs, hl with
  | [c0], _ =>
    obtain ⟨x0, e0, _, w0⟩ := DataW.trod_int Tryz.underlying3 h
    injection e0 with e0
    exact ⟨x0, by rw [e0]; rfl, wf_i w0⟩
set_option maxRecDepth 1000000 in
theorem arr_read {cs : List Value} (h : DataW.trod enc Tryz.prog W base sp held fuel 30 cs = some x) : ∃ e : Sg, cs = sgV e ∧ e.ok := by
  obtain ⟨xs, n, _, _, hl, hlen, hf⟩ := DataW.trod_array Tryz.underlying30 h
  rw [cells30] at hl
  match cs, hl with
  | [c0, c1, c2, c3, c4, c5], _ =>
    match xs, hlen with
    | [y0, y1, y2, y3, y4, y5], _ =>
      have h0 := hf 0 (by omega)
      have h1 := hf 1 (by omega)
      have h2 := hf 2 (by omega)
      have h3 := hf 3 (by omega)
      have h4 := hf 4 (by omega)
      have h5 := hf 5 (by omega)
      simp only [cells5, Nat.zero_mul, Nat.one_mul, Nat.reduceMul, List.drop_zero, List.drop_succ_cons, List.take_succ_cons, List.take_zero, List.getElem?_cons_zero, List.getElem?_cons_succ] at h0 h1 h2 h3 h4 h5
      obtain ⟨x0, e0, _, w0⟩ := DataW.trod_int Tryz.underlying5 h0
      obtain ⟨x1, e1, _, w1⟩ := DataW.trod_int Tryz.underlying5 h1
      obtain ⟨x2, e2, _, w2⟩ := DataW.trod_int Tryz.underlying5 h2
      obtain ⟨x3, e3, _, w3⟩ := DataW.trod_int Tryz.underlying5 h3
      obtain ⟨x4, e4, _, w4⟩ := DataW.trod_int Tryz.underlying5 h4
      obtain ⟨x5, e5, _, w5⟩ := DataW.trod_int Tryz.underlying5 h5
      refine ⟨⟨x0, x1, x2, x3, x4, x5⟩, ?_, wf_u w0, wf_u w1, wf_u w2, wf_u w3, wf_u w4, wf_u w5⟩
      injection e0 with e0
      injection e1 with e1
      injection e2 with e2
      injection e3 with e3
      injection e4 with e4
      injection e5 with e5
      rw [e0, e1, e2, e3, e4, e5]
      rfl
set_option maxRecDepth 1000000 in
theorem sg_read {cs : List Value} (hl : cs.length = 6) (h : DataW.trod enc Tryz.prog W base sp held fuel 39 cs = some x) : ∃ e : Sg, cs = sgV e ∧ e.ok := by
  obtain ⟨xs, n, _, _, _, hlen, hf⟩ := DataW.trod_struct Tryz.underlying39 h
  match cs, hl with
  | [c0, c1, c2, c3, c4, c5], _ =>
    match xs, hlen with
    | [y0], _ =>
      have h0 := hf 0 _ rfl
      simp only [cells30, List.drop_zero, List.take_succ_cons, List.take_zero, List.getElem?_cons_zero] at h0
      exact arr_read h0
set_option maxRecDepth 1000000 in
theorem mk_read {cs : List Value} (hl : cs.length = 9) (h : DataW.trod enc Tryz.prog W base sp held fuel 32 cs = some x) : ∃ e : Mk, cs = mkC e ∧ e.ok := by
  obtain ⟨xs, n, _, _, _, hlen, hf⟩ := DataW.trod_struct Tryz.underlying32 h
  match cs, hl with
  | [c0, c1, c2, c3, c4, c5, c6, c7, c8], _ =>
    match xs, hlen with
    | [y0, y1, y2, y3], _ =>
      have h0 := hf 0 _ rfl
      have h1 := hf 1 _ rfl
      have h2 := hf 2 _ rfl
      have h3 := hf 3 _ rfl
      simp only [cells3, cells30, List.drop_zero, List.drop_succ_cons, List.take_succ_cons, List.take_zero, List.getElem?_cons_zero, List.getElem?_cons_succ] at h0 h1 h2 h3
      obtain ⟨x0, e0, _, w0⟩ := DataW.trod_int Tryz.underlying3 h0
      obtain ⟨x1, e1, _, w1⟩ := DataW.trod_int Tryz.underlying3 h1
      obtain ⟨x2, e2, _, w2⟩ := DataW.trod_int Tryz.underlying3 h2
      obtain ⟨s, e3, w3⟩ := arr_read h3
      refine ⟨⟨x0, x1, x2, s⟩, ?_, wf_i w0, wf_i w1, wf_i w2, w3⟩
      injection e0 with e0
      injection e1 with e1
      injection e2 with e2
      have e3' : [c3, c4, c5, c6, c7, c8] = sgV s := e3
      rw [e0, e1, e2, e3']
      rfl
set_option maxRecDepth 1000000 in
theorem fd_read {cs : List Value} (hl : cs.length = 2) (h : DataW.trod enc Tryz.prog W base sp held fuel 87 cs = some x) : ∃ e : Fd, cs = fdC e ∧ e.ok := by
  obtain ⟨xs, n, _, _, _, hlen, hf⟩ := DataW.trod_struct Tryz.underlying87 h
  match cs, hl with
  | [c0, c1], _ =>
    match xs, hlen with
    | [y0, y1], _ =>
      have h0 := hf 0 _ rfl
      have h1 := hf 1 _ rfl
      simp only [cells5, List.drop_zero, List.drop_succ_cons, List.take_succ_cons, List.take_zero, List.getElem?_cons_zero, List.getElem?_cons_succ] at h0 h1
      obtain ⟨x0, e0, _, w0⟩ := DataW.trod_int Tryz.underlying5 h0
      obtain ⟨x1, e1, _, w1⟩ := DataW.trod_int Tryz.underlying5 h1
      refine ⟨⟨x0, x1⟩, ?_, wf_u w0, wf_u w1⟩
      injection e0 with e0
      injection e1 with e1
      rw [e0, e1]
      rfl
/-- a slice of elements of k cells -/
theorem sla_read {α : Type} [Inhabited α] {en : α → List Value} {k : Nat} {ok : α → Prop} {t el : TypeId} {cs : List Value} (ht : Tryz.prog.underlying t = some (.slice el)) (hk : Tryz.prog.cellsOf el = k) (hk0 : 0 < k) (hen : ∀ e, (en e).length = k)
    (hrd : ∀ (f : Nat) (cs : List Value) (x : DataW H × List MemPlace), cs.length = k → DataW.trod enc Tryz.prog W base sp held f el cs = some x → ∃ e : α, cs = en e ∧ ok e)
    (h : DataW.trod enc Tryz.prog W base sp held fuel t cs = some x) : ∃ A n c xs, cs = [.slice A n c] ∧ SlA en k ok W A n c xs := by
  rcases open_slice ht h with ⟨h0, _⟩ | ⟨a, len, cap, m, n, D, Pl, hcs, hb, hl, hm, hmm, hx, hi⟩
  · exact ⟨none, 0, 0, [], h0, rfl, by omega, by omega, fun x hx => (by cases hx), fun h => by omega⟩
  · have hlm : len ≤ m := by rw [hmm]; split <;> omega
    have key : ∀ i, i < len → ∃ e : α, (∀ j v, (en e)[j]? = some v → W.cell? ((a.add (i * k)).add j) = some v) ∧ ok e := by
      intro i hin
      obtain ⟨cs', hc, ht'⟩ := hi i (by omega)
      rw [hk] at hc
      obtain ⟨_, hcl, hat⟩ := World.cells?_some hc
      obtain ⟨e, he, hs⟩ := hrd _ _ _ hcl ht'
      refine ⟨e, fun j v hj => ?_, hs⟩
      subst he
      have hjk : j < k := by rw [← hen e]; exact (List.getElem?_eq_some_iff.1 hj).1
      rw [hat j (by omega), hj]
    obtain ⟨q, hq⟩ := choose_lt key
    refine ⟨some a, len, cap, (List.range len).map q, hcs, by simp, hl, by simpa [maxLen] using hm, fun x hx => ?_, fun hn => ?_⟩
    · rw [List.mem_map] at hx
      obtain ⟨i, hir, rfl⟩ := hx
      exact (hq i (List.mem_range.1 hir)).2
    · obtain ⟨v0, hv0⟩ : ∃ v, (en (q 0))[0]? = some v := ⟨_, List.getElem?_eq_getElem (by rw [hen]; exact hk0)⟩
      have h0 := (hq 0 hn).1 0 v0 hv0
      have ea : (a.add (0 * k)).add 0 = a := by simp [Addr.add]
      rw [ea] at h0
      have hA := addr_at h0
      refine ⟨a.block, a.off, congrArg some hA, fun i p hp j v hv => ?_⟩
      have hin : i < len := by
        have := (List.getElem?_eq_some_iff.1 hp).1
        simpa using this
      have e : p = q i := by
        rw [List.getElem?_map, List.getElem?_range hin] at hp
        simpa using hp.symm
      subst e
      have := (hq i hin).1 j v hv
      rw [hA, addr_add, addr_add] at this
      simpa using this
instance : Inhabited Sg := ⟨⟨0, 0, 0, 0, 0, 0⟩⟩
instance : Inhabited Mk := ⟨⟨0, 0, 0, default⟩⟩
instance : Inhabited Fd := ⟨⟨0, 0⟩⟩
set_option maxRecDepth 1000000 in
theorem sm_read {cs : List Value} (h : DataW.trod enc Tryz.prog W base sp held fuel 25 cs = some x) : ∃ A n c ms B m d fs, cs = [.slice A n c, .slice B m d] ∧ SmA W A n c ms B m d fs := by
  obtain ⟨xs, n, _, _, hl, hlen, hf⟩ := DataW.trod_struct Tryz.underlying25 h
  rw [cells25] at hl
  match cs, hl with
  | [c0, c1], _ =>
    match xs, hlen with
    | [y0, y1], _ =>
      have h0 := hf 0 _ rfl
      have h1 := hf 1 _ rfl
      simp only [cells22, cells23, List.drop_zero, List.drop_succ_cons, List.take_succ_cons, List.take_zero, List.getElem?_cons_zero, List.getElem?_cons_succ] at h0 h1
      obtain ⟨A, n, c, ms, e0, s0⟩ := sla_read (en := mkC) (ok := Mk.ok) Tryz.underlying22 cells32 (by omega) (fun _ => rfl) (fun f cs x hl hr => mk_read hl hr) h0
      obtain ⟨B, m, d, fs, e1, s1⟩ := sla_read (en := fdC) (ok := Fd.ok) Tryz.underlying23 cells87 (by omega) (fun _ => rfl) (fun f cs x hl hr => fd_read hl hr) h1
      injection e0 with e0
      injection e1 with e1
      exact ⟨A, n, c, ms, B, m, d, fs, by rw [e0, e1], s0, s1⟩
variable {b0 : Nat} {v : Value} {d : DataW H} {p : List MemPlace}
set_option maxRecDepth 1000000 in
theorem sm_open (hv : Value.okWide Tryz.prog W .any b0 25 v) (h : DataW.Trod enc Tryz.prog W base sp held 25 v d p) : ∃ A n c ms B m d fs, v = .agg #[.slice A n c, .slice B m d] ∧ SmA W A n c ms B m d fs := by
  obtain ⟨cs, rfl, hsz⟩ := okWide_struct Tryz.underlying25 hv
  obtain ⟨fuel, hf⟩ := h
  obtain ⟨A, n, c, ms, B, m, d, fs, he, hs⟩ := sm_read hf
  refine ⟨A, n, c, ms, B, m, d, fs, ?_, hs⟩
  simp only [Value.cells] at he
  cases cs
  simp only at he
  subst he
  rfl
set_option maxRecDepth 1000000 in
theorem sg_open (hv : Value.okWide Tryz.prog W .any b0 39 v) (h : DataW.Trod enc Tryz.prog W base sp held 39 v d p) : ∃ s : Sg, v = .agg #[.int .u8 s.s0, .int .u8 s.s1, .int .u8 s.s2, .int .u8 s.s3, .int .u8 s.s4, .int .u8 s.s5] ∧ s.ok := by
  obtain ⟨cs, rfl, hsz⟩ := okWide_struct Tryz.underlying39 hv
  obtain ⟨fuel, hf⟩ := h
  have hl : cs.toList.length = 6 := by
    obtain ⟨xs, n, _, _, hl, _, _⟩ := DataW.trod_struct Tryz.underlying39 hf
    simpa [Value.cells, cells39] using hl
  obtain ⟨s, he, hs⟩ := sg_read (by simpa [Value.cells] using hl) hf
  refine ⟨s, ?_, hs⟩
  simp only [Value.cells] at he
  cases cs
  simp only at he
  subst he
  rfl
set_option maxRecDepth 1000000 in
theorem sgs_open (hv : Value.okWide Tryz.prog W .any b0 62 v) (h : DataW.Trod enc Tryz.prog W base sp held 62 v d p) : ∃ A n c xs, v = .slice A n c ∧ SlA sgV 6 Sg.ok W A n c xs := by
  obtain ⟨A0, n0, c0, rfl⟩ := okWide_slice Tryz.underlying62 hv
  obtain ⟨fuel, hf⟩ := h
  obtain ⟨A, n, c, xs, he, hs⟩ := sla_read (en := sgV) (ok := Sg.ok) Tryz.underlying62 cells39 (by omega) (fun _ => rfl) (fun f cs x hl hr => sg_read hl hr) hf
  simp only [Value.cells] at he
  exact ⟨A, n, c, xs, by simpa using he, hs⟩
set_option maxRecDepth 1000000 in
theorem ins_open (hv : Value.okWide Tryz.prog W .any b0 43 v) (h : DataW.Trod enc Tryz.prog W base sp held 43 v d p) : ∃ A n c xs, v = .slice A n c ∧ SlA inC 1 i64 W A n c xs := by
  obtain ⟨A0, n0, c0, rfl⟩ := okWide_slice Tryz.underlying43 hv
  obtain ⟨fuel, hf⟩ := h
  obtain ⟨A, n, c, xs, he, hs⟩ := sla_read (en := inC) (ok := i64) Tryz.underlying43 cells3 (by omega) (fun _ => rfl) (fun f cs x hl hr => in_read hl hr) hf
  simp only [Value.cells] at he
  exact ⟨A, n, c, xs, by simpa using he, hs⟩
set_option maxRecDepth 1000000 in
/-- the arguments read behind the call as before it -/
theorem args_stay {P : Program} : ∀ (ts : List TypeId) (vs : List Value) (ds : List (DataW H)) (ps : List MemPlace) {W W' : World}, laidOutB P = true → (ts.all fun t => P.readableRec t && decide (t < P.types.size)) = true →
    DataW.TrodAll enc P W 0 (fun _ => true) true ts vs ds ps → Below W.heap.size W W' → (∀ x ∈ ps, x.block < W.heap.size) → DataW.TrodAll enc P W' 0 (fun b => decide (b < W.heap.size)) true ts vs ds ps
  | [], vs, ds, ps, W, W', hl, hr, h, hb, hp => by
    obtain ⟨rfl, rfl, rfl⟩ := trodAll_nil h
    exact trodAll_mk0
  | t :: ts, vs, ds, ps, W, W', hl, hr, h, hb, hp => by
    obtain ⟨v, vs', d, ds', p, q, rfl, rfl, rfl, hd, hrest⟩ := trodAll_cons h
    simp only [List.all_cons, Bool.and_eq_true, decide_eq_true_eq] at hr
    exact ⟨p, q, Below.trod hl hr.1.1 hr.1.2 hd hb (fun x hx => hp x (List.mem_append_left _ hx)), args_stay ts vs' ds' q hl hr.2 hrest hb (fun x hx => hp x (List.mem_append_right _ hx)), rfl⟩
end
theorem own_ : ownKnob Tryz.prog.godebug = none := by kernel_rfl
theorem gTab : Tryz.prog.globalNamed "math/bits.deBruijn64tab" = some 0 := by kernel_rfl
theorem dTab : (Rows.laid_math_bits_deBruijn64tab : DataW Unit) = Lib.tabData .u8 (Lib.deBruijn64tab.map fun n : Nat => (n : Int)) := by kernel_rfl
set_option maxRecDepth 1000000 in
theorem env_of_laid {W : World} (hL : laidMetH Tryz.prog Rows.markWornRow.laid W) : EnvT W := by
  rw [Go.MakeChecks.laidMetH_plain Tryz.prog _ W (by kernel_rfl)] at hL
  have hL2 : laidMet Tryz.prog (("math/bits.deBruijn64tab", Lib.tabData .u8 (Lib.deBruijn64tab.map fun n : Nat => (n : Int))) :: [("unicode/utf8.acceptRanges", Rows.laid_unicode_utf8_acceptRanges), ("unicode/utf8.first", Rows.laid_unicode_utf8_first)]) W := by
    rw [← dTab]; exact hL
  have hT := Lib.tabIs_of_head (t := 260) (e := 5) (n := 64) gTab (by kernel_rfl) Tryz.underlying260 Tryz.underlying5 (by kernel_rfl) (by kernel_rfl) hL2
  intro j hj
  have h := hT.cell gTab j (by simpa using hj)
  rw [h]
  simp [List.getD_eq_getElem?_getD, List.getElem?_eq_getElem hj]
theorem envM_of {W : World} (h : W.ShapedOpen Tryz.prog) : EnvM W :=
  Go.Proofs.cell_of_shapedOpen_int (zero := #[.int .i64 0]) (t := 3) h (of_decide_eq_true (by kernel_rfl)) (by kernel_rfl) rfl (by kernel_rfl) (by kernel_rfl) Tryz.underlying3
set_option maxRecDepth 1000000 in
theorem wit_met (os : Os) (args : Array Value) : laidMetH Tryz.prog Rows.markWornRow.laid ((World.laidAll Tryz.prog os Rows.markWornRow.laid).forCall (fun _ _ => 0) ⟨#[], args, []⟩).memory := by
  rw [Go.MakeChecks.laidMetH_plain _ _ _ (by kernel_rfl)]
  exact laidMet_laidAll _ (by kernel_rfl) (by kernel_rfl)
set_option maxRecDepth 1000000 in
theorem wit_shaped (os : Os) (args : Array Value) : ((World.laidAll Tryz.prog os Rows.markWornRow.laid).forCall (fun _ _ => 0) ⟨#[], args, []⟩).Shaped Tryz.prog := World.shaped_of_ZipB (by kernel_rfl) (by kernel_rfl)
end Go.Proofs.YtologmoanaccpaaGreatDoor

namespace Go.Proofs.YtologmoanaccpaaGreatDoor
set_option linter.all false
open Go.ChangeShapes Go.WideShapes Go.ChangeAt Go.RowKit Go.Shelf Go.Deep

theorem cells94 : Tryz.prog.cellsOf 94 = 2 := by kernel_rfl
instance : Inhabited Cl := ⟨⟨0, 0⟩⟩
section
variable {H : Type} {enc : TypeId × Value → H} {W : World} {base : Nat} {sp : Nat → Bool} {held : Bool} {fuel : Nat} {x : DataW H × List MemPlace}
set_option maxRecDepth 1000000 in
theorem cl_read {cs : List Value} (hl : cs.length = 2) (h : DataW.trod enc Tryz.prog W base sp held fuel 94 cs = some x) : ∃ e : Cl, cs = clC e ∧ e.ok := by
  obtain ⟨xs, n, _, _, _, hlen, hf⟩ := DataW.trod_struct Tryz.underlying94 h
  match cs, hl with
  | [c0, c1], _ =>
    match xs, hlen with
    | [y0, y1], _ =>
      have h0 := hf 0 _ rfl
      have h1 := hf 1 _ rfl
      simp only [cells3, List.drop_zero, List.drop_succ_cons, List.take_succ_cons, List.take_zero, List.getElem?_cons_zero, List.getElem?_cons_succ] at h0 h1
      obtain ⟨x0, e0, _, w0⟩ := DataW.trod_int Tryz.underlying3 h0
      obtain ⟨x1, e1, _, w1⟩ := DataW.trod_int Tryz.underlying3 h1
      refine ⟨⟨x0, x1⟩, ?_, wf_i w0, wf_i w1⟩
      injection e0 with e0
      injection e1 with e1
      rw [e0, e1]
      rfl
variable {b0 : Nat} {v : Value} {d : DataW H} {p : List MemPlace}
set_option maxRecDepth 1000000 in
theorem cls_open (hv : Value.okWide Tryz.prog W .any b0 70 v) (h : DataW.Trod enc Tryz.prog W base sp held 70 v d p) : ∃ A n c xs, v = .slice A n c ∧ SlA clC 2 Cl.ok W A n c xs := by
  obtain ⟨A0, n0, c0, rfl⟩ := okWide_slice Tryz.underlying70 hv
  obtain ⟨fuel, hf⟩ := h
  obtain ⟨A, n, c, xs, he, hs⟩ := sla_read (en := clC) (ok := Cl.ok) Tryz.underlying70 cells94 (by omega) (fun _ => rfl) (fun f cs x hl hr => cl_read hl hr) hf
  simp only [Value.cells] at he
  exact ⟨A, n, c, xs, by simpa using he, hs⟩
end
end Go.Proofs.YtologmoanaccpaaGreatDoor
