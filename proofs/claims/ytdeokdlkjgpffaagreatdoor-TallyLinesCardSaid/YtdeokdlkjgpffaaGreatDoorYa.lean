/- From the row's condition to what the walks lean on; opening the laws' arguments -/
import Derived.Test.YtdeokdlkjgpffaaGreatDoorXs
import Derived.Test.YtdeokdlkjgpffaaGreatDoorXe
import Derived.Test.YtdeokdlkjgpffaaGreatDoorRows
import Derived.Test.YtdeokdlkjgpffaaGreatDoorFac
import Derived.ChangeSame
import Derived.ChangeVars
import Derived.JoinedOf
import Derived.ProofKit
import Derived.LaidMore
import Derived.LaidLaws
import Derived.LaidHandle
import Derived.MakeChecks
import Derived.Handed
import Derived.Carry
import Derived.Deep.DeepHandedRow
import Derived.Lib.LaidTab
import Derived.Lay
import Derived.Lib.SmallJoins
import Derived.Stop.Joined
import Derived.Deep.Slices
import Derived.Deep.Fields
import Derived.OpenShut
import Derived.Deep.MidRow
namespace Go.Proofs.YtdeokdlkjgpffaaGreatDoor
set_option linter.all false
open Go.ChangeShapes Go.WideShapes Go.ChangeAt Go.RowKit Go.Shelf Go.Deep

theorem laidVars_at {P : Program} {w : World} {n : String} {d : DataW Unit} : ∀ {l : List (String × DataW Unit)} {ps : List MemPlace}, DataW.LaidVars P w l ps → (n, d) ∈ l →
    ∃ g t cs fuel p, P.globalNamed n = some g ∧ (P.globals[g]?).map (·.type) = some t ∧ w.var? P n = some cs ∧ DataW.trod (fun _ => ()) P w 0 (fun _ => true) false fuel t cs.toList = some (d, p)
  | [], _, _, h => by cases h
  | (n', d') :: r, ps, hl, h => by
    obtain ⟨g, t, cs, fuel, p, q, h1, h2, h3, h4, h5, _⟩ := hl
    rcases List.mem_cons.1 h with e | h
    · cases e
      exact ⟨g, t, cs, fuel, p, h1, h2, h3, h4⟩
    · exact laidVars_at h5 h
theorem own_ : ownKnob Tryz.prog.godebug = none := by kernel_rfl
theorem tPow : ((Tryz.prog.globalNamed "internal/strconv.uint64pow10").bind fun g => (Tryz.prog.globals[g]?).map (·.type)) = some 138 := by kernel_rfl
theorem tSyn : ((Tryz.prog.globalNamed "strconv.ErrSyntax").bind fun g => (Tryz.prog.globals[g]?).map (·.type)) = some 87 := by kernel_rfl
theorem tRng : ((Tryz.prog.globalNamed "strconv.ErrRange").bind fun g => (Tryz.prog.globals[g]?).map (·.type)) = some 87 := by kernel_rfl
theorem dPow : (Rows.laid_internal_strconv_uint64pow10 : DataW Unit) = Lib.tabData .u64 Lib.pow10Tab := by kernel_rfl
theorem laid_iface {W : World} {n : String} {name : String} {d : DataW Unit} {l : List (String × DataW Unit)} (hm : (n, DataW.iface name d) ∈ l) (ht : ((Tryz.prog.globalNamed n).bind fun g => (Tryz.prog.globals[g]?).map (·.type)) = some 87) (h : laidMet Tryz.prog l W) :
    ∃ tp p, W.var? Tryz.prog n = some #[.iface tp p] := by
  obtain ⟨ps, hl, _⟩ := h
  obtain ⟨g, t, cs, fuel, p, h1, h2, h3, h4⟩ := laidVars_at hl hm
  rw [h1] at ht
  simp only [Option.bind_some] at ht
  obtain rfl := Option.some.inj (ht.symm.trans h2)
  obtain ⟨_, u, v, e, _⟩ := iface_of_trod Tryz.underlying87 h4
  exact ⟨u, v, by rw [h3]; exact congrArg some (Array.toList_inj.1 e)⟩
set_option maxRecDepth 1000000 in
theorem env_of_laid {W : World} (hL : laidMetH Tryz.prog Rows.tallyTextsRow.laid W) (hsh : W.ShapedOpen Tryz.prog) : Env W := by
  rw [Go.MakeChecks.laidMetH_plain Tryz.prog _ W (by kernel_rfl)] at hL
  refine ⟨Tryz.laysM146.s1_3 W hsh, ?_, ?_, ?_⟩
  · obtain ⟨ps, hl, _⟩ := hL
    obtain ⟨g, t, cs, fuel, p, h1, h2, h3, h4⟩ := laidVars_at (n := "internal/strconv.uint64pow10") (d := Lib.tabData .u64 Lib.pow10Tab) hl (by rw [← dPow]; unfold Rows.tallyTextsRow; exact List.mem_iff_getElem?.2 ⟨2, rfl⟩)
    have ht := tPow
    rw [h1] at ht
    simp only [Option.bind_some] at ht
    obtain rfl := Option.some.inj (ht.symm.trans h2)
    unfold Lib.TabIs
    rw [h3, ← Lib.cells_of_tab Tryz.underlying138 Tryz.underlying119 (by kernel_rfl) (by kernel_rfl) h4]
  · exact laid_iface (name := "*errors.errorString") (d := .ptr (.agg [.lit (.string [105, 110, 118, 97, 108, 105, 100, 32, 115, 121, 110, 116, 97, 120])])) (by unfold Rows.tallyTextsRow; exact List.mem_iff_getElem?.2 ⟨5, rfl⟩) tSyn hL
  · exact laid_iface (name := "*errors.errorString") (d := .ptr (.agg [.lit (.string [118, 97, 108, 117, 101, 32, 111, 117, 116, 32, 111, 102, 32, 114, 97, 110, 103, 101])])) (by unfold Rows.tallyTextsRow; exact List.mem_iff_getElem?.2 ⟨4, rfl⟩) tRng hL
set_option maxRecDepth 1000000 in
theorem wit_met (os : Os) (args : Array Value) : laidMetH Tryz.prog Rows.tallyTextsRow.laid ((World.laidAll Tryz.prog os Rows.tallyTextsRow.laid).forCall (fun _ _ => 0) ⟨#[], args, []⟩).memory := by
  rw [Go.MakeChecks.laidMetH_plain _ _ _ (by kernel_rfl)]
  exact laidMet_laidAll _ (by kernel_rfl) (by kernel_rfl)
set_option maxRecDepth 1000000 in
theorem wit_shaped (os : Os) (args : Array Value) : ((World.laidAll Tryz.prog os Rows.tallyTextsRow.laid).forCall (fun _ _ => 0) ⟨#[], args, []⟩).Shaped Tryz.prog := World.shaped_of_ZipB (by kernel_rfl) (by kernel_rfl)
section
variable {H : Type} {enc : TypeId × Value → H} {P : Program} {w : World} {base : Nat} {spare : Nat → Bool} {held : Bool}
/-- the arguments read behind the call as before it -/
theorem args_stay : ∀ (ts : List TypeId) (vs : List Value) (ds : List (DataW H)) (ps : List MemPlace) {W W' : World}, laidOutB P = true → (ts.all fun t => P.readableRec t && decide (t < P.types.size)) = true →
    DataW.TrodAll enc P W 0 (fun _ => true) true ts vs ds ps → Below W.heap.size W W' → (∀ x ∈ ps, x.block < W.heap.size) → DataW.TrodAll enc P W' 0 (fun b => decide (b < W.heap.size)) true ts vs ds ps
  | [], vs, ds, ps, W, W', hl, hr, h, hb, hp => by
    obtain ⟨rfl, rfl, rfl⟩ := trodAll_nil h
    exact trodAll_mk0
  | t :: ts, vs, ds, ps, W, W', hl, hr, h, hb, hp => by
    obtain ⟨v, vs', d, ds', p, q, rfl, rfl, rfl, hd, hrest⟩ := trodAll_cons h
    simp only [List.all_cons, Bool.and_eq_true, decide_eq_true_eq] at hr
    exact ⟨p, q, Below.trod hl hr.1.1 hr.1.2 hd hb (fun x hx => hp x (List.mem_append_left _ hx)), args_stay ts vs' ds' q hl hr.2 hrest hb (fun x hx => hp x (List.mem_append_right _ hx)), rfl⟩
end
theorem wf_bd {x : Int} (h : (Lit.int .i64 x).wf = true) : -9223372036854775808 ≤ x ∧ x ≤ 9223372036854775807 := by
  have e1 : IntKind.i64.min = -9223372036854775808 := rfl
  have e2 : IntKind.i64.max = 9223372036854775807 := rfl
  simp [Lit.wf, e1, e2] at h
  omega
theorem cells3 : Tryz.prog.cellsOf 3 = 1 := by kernel_rfl
theorem cells4 : Tryz.prog.cellsOf 4 = 1 := by kernel_rfl
def okI (x : Int) : Prop := -9223372036854775808 ≤ x ∧ x ≤ 9223372036854775807
def okCt (x : Ct) : Prop := okI x.id ∧ okI x.dy ∧ okI x.sh ∧ okI x.nu ∧ okI x.wo
def okRc (x : Rcn) : Prop := okI x.id ∧ okI x.dy ∧ okI x.kn ∧ okI x.sh ∧ okI x.tr ∧ okI x.nu
theorem cells23 : Tryz.prog.cellsOf 23 = 5 := by kernel_rfl
set_option maxRecDepth 1000000 in
theorem ct_read {H : Type} {enc : TypeId × Value → H} {W : World} {base : Nat} {sp : Nat → Bool} {held : Bool} {fuel : Nat} {cs : List Value} {x : DataW H × List MemPlace}
    (h : DataW.trod enc Tryz.prog W base sp held fuel 23 cs = some x) : ∃ e : Ct, cs = ctCells e ∧ okCt e := by
  obtain ⟨xs, n, _, _, hl, hlen, hf⟩ := DataW.trod_struct Tryz.underlying23 h
  rw [cells23] at hl
  match cs, hl with
  | [c0, c1, c2, c3, c4], _ =>
    match xs, hlen with
    | [y0, y1, y2, y3, y4], _ =>
      have h0 := hf 0 _ rfl
      have h1 := hf 1 _ rfl
      have h2 := hf 2 _ rfl
      have h3 := hf 3 _ rfl
      have h4 := hf 4 _ rfl
      simp only [cells3, cells4, List.drop_zero, List.drop_succ_cons, List.take_succ_cons, List.take_zero, List.getElem?_cons_zero, List.getElem?_cons_succ] at h0 h1 h2 h3 h4
      obtain ⟨x0, e0, _, w0⟩ := DataW.trod_int Tryz.underlying3 h0
      obtain ⟨x1, e1, _, w1⟩ := DataW.trod_int Tryz.underlying3 h1
      obtain ⟨x2, e2, _, w2⟩ := DataW.trod_int Tryz.underlying3 h2
      obtain ⟨x3, e3, _, w3⟩ := DataW.trod_int Tryz.underlying3 h3
      obtain ⟨x4, e4, _, w4⟩ := DataW.trod_int Tryz.underlying3 h4
      refine ⟨⟨x0, x1, x2, x3, x4⟩, ?_, wf_bd w0, wf_bd w1, wf_bd w2, wf_bd w3, wf_bd w4⟩
      injection e0 with e0
      injection e1 with e1
      injection e2 with e2
      injection e3 with e3
      injection e4 with e4
      rw [e0, e1, e2, e3, e4]
      rfl
set_option maxRecDepth 1000000 in
theorem ct_open {H : Type} {enc : TypeId × Value → H} {W : World} {base : Nat} {sp : Nat → Bool} {held : Bool} {b0 : Nat} {v : Value} {d : DataW H} {p : List MemPlace}
    (hv : Value.okWide Tryz.prog W .any b0 23 v) (h : DataW.Trod enc Tryz.prog W base sp held 23 v d p) : ∃ e : Ct, v = .agg (ctCells e).toArray ∧ okCt e := by
  obtain ⟨cs, rfl, hsz⟩ := okWide_struct Tryz.underlying23 hv
  obtain ⟨fuel, hf⟩ := h
  obtain ⟨e, he, hs⟩ := ct_read hf
  refine ⟨e, ?_, hs⟩
  simp only [Value.cells] at he
  cases cs
  simp only at he
  subst he
  rfl
theorem cells25 : Tryz.prog.cellsOf 25 = 6 := by kernel_rfl
set_option maxRecDepth 1000000 in
theorem rc_read {H : Type} {enc : TypeId × Value → H} {W : World} {base : Nat} {sp : Nat → Bool} {held : Bool} {fuel : Nat} {cs : List Value} {x : DataW H × List MemPlace}
    (h : DataW.trod enc Tryz.prog W base sp held fuel 25 cs = some x) : ∃ e : Rcn, cs = rcCells e ∧ okRc e := by
  obtain ⟨xs, n, _, _, hl, hlen, hf⟩ := DataW.trod_struct Tryz.underlying25 h
  rw [cells25] at hl
  match cs, hl with
  | [c0, c1, c2, c3, c4, c5], _ =>
    match xs, hlen with
    | [y0, y1, y2, y3, y4, y5], _ =>
      have h0 := hf 0 _ rfl
      have h1 := hf 1 _ rfl
      have h2 := hf 2 _ rfl
      have h3 := hf 3 _ rfl
      have h4 := hf 4 _ rfl
      have h5 := hf 5 _ rfl
      simp only [cells3, cells4, List.drop_zero, List.drop_succ_cons, List.take_succ_cons, List.take_zero, List.getElem?_cons_zero, List.getElem?_cons_succ] at h0 h1 h2 h3 h4 h5
      obtain ⟨x0, e0, _, w0⟩ := DataW.trod_int Tryz.underlying3 h0
      obtain ⟨x1, e1, _, w1⟩ := DataW.trod_int Tryz.underlying3 h1
      obtain ⟨x2, e2, _, w2⟩ := DataW.trod_int Tryz.underlying3 h2
      obtain ⟨x3, e3, _, w3⟩ := DataW.trod_int Tryz.underlying3 h3
      obtain ⟨x4, e4, _, w4⟩ := DataW.trod_int Tryz.underlying3 h4
      obtain ⟨x5, e5, _, w5⟩ := DataW.trod_int Tryz.underlying3 h5
      refine ⟨⟨x0, x1, x2, x3, x4, x5⟩, ?_, wf_bd w0, wf_bd w1, wf_bd w2, wf_bd w3, wf_bd w4, wf_bd w5⟩
      injection e0 with e0
      injection e1 with e1
      injection e2 with e2
      injection e3 with e3
      injection e4 with e4
      injection e5 with e5
      rw [e0, e1, e2, e3, e4, e5]
      rfl
set_option maxRecDepth 1000000 in
theorem rc_open {H : Type} {enc : TypeId × Value → H} {W : World} {base : Nat} {sp : Nat → Bool} {held : Bool} {b0 : Nat} {v : Value} {d : DataW H} {p : List MemPlace}
    (hv : Value.okWide Tryz.prog W .any b0 25 v) (h : DataW.Trod enc Tryz.prog W base sp held 25 v d p) : ∃ e : Rcn, v = .agg (rcCells e).toArray ∧ okRc e := by
  obtain ⟨cs, rfl, hsz⟩ := okWide_struct Tryz.underlying25 hv
  obtain ⟨fuel, hf⟩ := h
  obtain ⟨e, he, hs⟩ := rc_read hf
  refine ⟨e, ?_, hs⟩
  simp only [Value.cells] at he
  cases cs
  simp only at he
  subst he
  rfl
set_option maxRecDepth 1000000 in
theorem str_open {H : Type} {enc : TypeId × Value → H} {W : World} {base : Nat} {sp : Nat → Bool} {held : Bool} {b0 : Nat} {v : Value} {d : DataW H} {p : List MemPlace}
    (hv : Value.okWide Tryz.prog W .any b0 9 v) (h : DataW.Trod enc Tryz.prog W base sp held 9 v d p) : ∃ s : ByteArray, v = .string s ∧ s.size ≤ 9223372036854775807 := by
  obtain ⟨s0, rfl⟩ := okWide_string Tryz.underlying9 hv
  obtain ⟨fuel, hf⟩ := h
  obtain ⟨s, hs, _, hm⟩ := DataW.trod_string Tryz.underlying9 hf
  have e : s0 = s := by simpa [Value.cells] using hs
  subst e
  exact ⟨s0, rfl, by simpa [maxLen] using hm⟩
end Go.Proofs.YtdeokdlkjgpffaaGreatDoor
