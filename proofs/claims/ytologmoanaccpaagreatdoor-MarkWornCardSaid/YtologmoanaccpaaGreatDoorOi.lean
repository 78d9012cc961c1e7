/-
  an assignment that meets claims: meet
-/
import Derived.Test.YtologmoanaccpaaGreatDoorOh
import Derived.Test.YtologmoanaccpaaGreatDoorOC
import Derived.Test.YtologmoanaccpaaGreatDoorNA
import Derived.Deep.MidRow
import Derived.MakeChecks
namespace Go.Proofs.YtologmoanaccpaaGreatDoor
set_option linter.all false
open Go.RowKit Go.Shelf
attribute [local go_sem] Oper.semAt_some

theorem wpListIn_load_mid {F : Fence} {n : Nat} {P : Program} {ops : Array Oper} {rest : List Oper} {op : Oper} {a : Act} {w : World} {Q : Exit → Act → World → Prop} (hgd : op.guard = none) (ty : TypeId) (x : Operand) (ho : op.op = .load ty x)
    (b o : Nat) (hx : a.eval x = .pointer (some ⟨b, o, none⟩)) (cs : List Value) (d : TypeDesc) (hc : w.rangeAt b o cs)
    (hu : P.underlying ty = some d) (hd : d.isRow = true) (hi : (P.info? ty).map (·.size) = some cs.length)
    (h : wpListIn F n P ops Q rest (a.put op.dst (.agg cs.toArray)) w) : wpListIn F n P ops Q (op :: rest) a w := by
  refine wpListIn_plain hgd fun K hK' => ?_
  unfold Oper.wpIn
  refine ⟨?_, ?_⟩
  · simp [Oper.about, ho]
  · rw [Oper.semAt_plain F _ _ (by rw [ho]; intro c hc'; cases hc')]
    simp only [execOp, ho, hx, Instr.loadAt, Instr.sureAddr, Sem.run_bind, Sem.run_pure, Result.andThen_ok, run_loadVar_mid w b o ty cs d hc hu hd hi]
    exact hK' _ _ h

def zer (n : Nat) : List Value := List.replicate n (.int .i64 0)
theorem make43 (n : Nat) (hn : n ≤ 60) (w : World) : (Instr.makeSlice 43 (.int .i64 (n : Int)) (.int .i64 (n : Int))).run Tryz.prog w = .ok (.slice (some ⟨w.heap.size, 0, none⟩) n n) (w.alloc (.cells (zer n).toArray 3)) := by
  obtain ⟨i, hi, hz, hsz, hb⟩ := info_parts info3
  have := run_make (P := Tryz.prog) w 43 3 i _ Tryz.underlying43 hi hz .i64 .i64 (n : Int) (n : Int) (by omega) (Int.le_refl _) (by rw [hb]; omega) (by omega)
  rw [this, hsz, Int.toNat_natCast, Nat.mul_one]
  have e : madeCells (Value.int .i64 0).cells n = (zer n).toArray := by
    unfold madeCells zer
    apply Array.ext
    · simp
    · intro j h1 h2
      simp [Value.cells]
      rw [Nat.mod_one]
      rfl
  rw [e]
theorem zer_map (n : Nat) : zer n = (List.replicate n (0 : Int)).map (Value.int .i64) := by simp [zer]
theorem zer_at {n j : Nat} {x : Int} (h : (List.replicate n (0 : Int))[j]? = some x) : (zer n)[j]? = some (.int .i64 x) := by
  rw [zer_map, List.getElem?_map, h]; rfl
theorem below_between {n0 : Nat} {w V w1 : World} (h : Below n0 w V) (k : Below n0 w w1) (hs : V.heap.size ≤ w1.heap.size) : Below n0 V w1 :=
  ⟨k.os.trans h.os.symm, k.tape.trans h.tape.symm, k.output.trans h.output.symm, hs, fun i hi => (k.block i hi).trans (h.block i hi).symm⟩
theorem hasr_heap {W W' : World} {hA : Option Addr} {nb cb hb ho : Nat} {ow : List Int} (e : W'.heap[hb]? = W.heap[hb]?) (hz : W.heap.size ≤ W'.heap.size) (h : HasR W hA nb cb hb ho ow) : HasR W' hA nb cb hb ho ow :=
  ⟨h.ln, h.nc, h.cm, h.ha, Nat.lt_of_lt_of_le h.lt hz, fun i x hi => ⟨(cell_heap e).trans (h.rh i x hi).1, (frozen_heap e).trans (h.rh i x hi).2⟩⟩
/-- how many beasts each has who was served -/
def CntA (wt ow : List Int) (pre : List Nat) : Prop := ∀ q : Nat, 1 ≤ q → q ≤ 40 → ((ow.count (q : Int) : Nat) : Int) = if q ∈ pre then wq wt q else 0
theorem has_new (W : World) (n : Nat) (t : TypeId) (hn : n ≤ 60) : HasR (W.alloc (.cells (zer n).toArray t)) (some ⟨W.heap.size, 0, none⟩) n n W.heap.size 0 (List.replicate n 0) :=
  ⟨by simp, Nat.le_refl _, by omega, fun _ => rfl, by simp, fun i x hx => by rw [Nat.zero_add]; exact RowC.new W (zer n) t i _ (zer_at hx)⟩
theorem skv_zero (fits : List Nat) : SkV fits (List.replicate fits.length 0) :=
  ⟨by simp, fun b x hx h0 => by
    rw [List.getElem?_replicate] at hx
    split at hx
    · cases hx; exact absurd rfl h0
    · cases hx⟩
theorem cnt_zero (wt : List Int) (n : Nat) : CntA wt (List.replicate n 0) [] := fun q h1 _ => by
  rw [List.count_replicate]
  have : ((0 : Int) == (q : Int)) = false := by simp; omega
  simp [this]
theorem own_block {W W' : World} {B : Nat} {row : Option Nat} (hg : W.grownBy W' row) (hr : ∀ r, row = some r → B ≤ r ∧ ∃ o : Obj, W.heap[r]? = some o ∧ o.isCells = false) {b o : Nat} {v : Value} (hc : W.cell? ⟨b, o, none⟩ = some v) : W'.heap[b]? = W.heap[b]? := by
  refine hg.block b (cell_lt hc) ?_
  intro e
  obtain ⟨_, ob, h1, h2⟩ := hr b e.symm
  unfold World.cell? at hc
  dsimp only at hc
  rw [h1] at hc
  cases ob <;> simp_all [Obj.isCells]
theorem rowc_heap {W W' : World} {b : Nat} {vs : List Value} (e : W'.heap[b]? = W.heap[b]?) (h : RowC W b vs) : RowC W' b vs := fun j v hv => ⟨(cell_heap e).trans (h j v hv).1, (frozen_heap e).trans (h j v hv).2⟩
theorem own_rowc {W W' : World} {B : Nat} {row : Option Nat} (hg : W.grownBy W' row) (hr : ∀ r, row = some r → B ≤ r ∧ ∃ o : Obj, W.heap[r]? = some o ∧ o.isCells = false) {b : Nat} {vs : List Value} (h : RowC W b vs) : RowC W' b vs := fun j v hv => by
  have e := own_block hg hr (h j v hv).1
  exact ⟨(cell_heap e).trans (h j v hv).1, (frozen_heap e).trans (h j v hv).2⟩
theorem HasR.own {W W' : World} {B : Nat} {row : Option Nat} (hg : W.grownBy W' row) (hr : ∀ r, row = some r → B ≤ r ∧ ∃ o : Obj, W.heap[r]? = some o ∧ o.isCells = false) {hA : Option Addr} {nb cb hb ho : Nat} {ow : List Int} (h : HasR W hA nb cb hb ho ow) : HasR W' hA nb cb hb ho ow :=
  ⟨h.ln, h.nc, h.cm, h.ha, Nat.lt_of_lt_of_le h.lt hg.size, fun i x hi => by
    have e := own_block hg hr (h.rh i x hi).1
    exact ⟨(cell_heap e).trans (h.rh i x hi).1, (frozen_heap e).trans (h.rh i x hi).2⟩⟩
def MtR (w : World) (hL : List Value) (W : World) : Prop := RowC W w.heap.size hL ∧ RowC W (w.heap.size + 1) [.slice none 0 0] ∧ RowC W (w.heap.size + 1 + 1) [.bool false]
def MtI (w : World) (hL : List Value) (nb : Nat) (wt : List Int) (fits : List Nat) (cl : Nat) (pre : List {x : Nat // cl.testBit x = true}) (W : World) : Prop :=
  MtR w hL W ∧ RowC W (w.heap.size + 1 + 1 + 1 + 1) [.slice (some ⟨w.heap.size + 1 + 1 + 1, 0, none⟩) nb nb] ∧ (∃ ow, HasR W (some ⟨w.heap.size + 1 + 1 + 1, 0, none⟩) nb nb (w.heap.size + 1 + 1 + 1) 0 ow ∧ SkV fits ow ∧ (Coh cl pre → CntA wt ow (pre.map (·.1)))) ∧ Below w.heap.size w W
theorem MtI.own (w : World) (hL : List Value) (nb : Nat) (wt : List Int) (fits : List Nat) (cl B : Nat) (hB : w.heap.size ≤ B) : OwnFrom B (MtI w hL nb wt fits cl) := by
  rintro pre W W' row ⟨⟨h1, h2, h3⟩, h4, ⟨ow, h5, h6, h7⟩, h8⟩ hg hr
  exact ⟨⟨own_rowc hg hr h1, own_rowc hg hr h2, own_rowc hg hr h3⟩, own_rowc hg hr h4, ⟨ow, h5.own hg hr, h6, h7⟩, h8.grown hg h8.size (fun k e => Nat.le_trans hB (hr k e).1)⟩
def MtX (w : World) (fits : List Nat) (cl : Nat) (wt : List Int) (c : Code) (pre : List {x : Nat // cl.testBit x = true}) (W : World) : Prop :=
  c = .ret ∧ RowC W (w.heap.size + 1) [.slice none 0 0] ∧ RowC W (w.heap.size + 1 + 1) [.bool false] ∧ (Coh cl pre → ShA fits cl wt) ∧ Below w.heap.size w W
theorem MtX.own (w : World) (fits : List Nat) (cl : Nat) (wt : List Int) (c : Code) (B : Nat) (hB : w.heap.size ≤ B) : OwnFrom B (MtX w fits cl wt c) := by
  rintro pre W W' row ⟨h0, h1, h2, h3, h8⟩ hg hr
  exact ⟨h0, own_rowc hg hr h1, own_rowc hg hr h2, h3, h8.grown hg h8.size (fun k e => Nat.le_trans hB (hr k e).1)⟩
def MtS (w : World) (hL : List Value) (F : Option Addr) (nb cF cl : Nat) (x : {x : Nat // cl.testBit x = true}) (a' : Act) (W : World) : Prop :=
  a' = { tmps := #[.agg hL.toArray, .pointer (some ⟨w.heap.size, 0, none⟩), .pointer (some ⟨w.heap.size + 1, 0, none⟩), .pointer (some ⟨w.heap.size + 1 + 1, 0, none⟩), .pointer (some ⟨w.heap.size + 1 + 1 + 1 + 1, 0, none⟩), .int .i64 (x.1 : Int), .pointer (some ⟨w.heap.size, 0, none⟩), .slice F nb cF, .int .i64 (nb : Int), .slice (some ⟨w.heap.size + 1 + 1 + 1, 0, none⟩) nb nb, .pointer (some ⟨w.heap.size, 1, none⟩), .int .u64 (cl : Int), .func (.func 200) #[] #[.pointer (some ⟨w.heap.size + 1 + 1 + 1 + 1 + 1, 0, none⟩)], .int .i64 (x.1 : Int), undef, undef, undef, undef, undef, undef, undef, undef, undef, undef, undef, undef, undef], defers := [] }
theorem MtS.own (w : World) (hL : List Value) (F : Option Addr) (nb cF cl : Nat) (x : {x : Nat // cl.testBit x = true}) (a' : Act) (B' : Nat) : OwnFrom B' (fun (_ : Unit) W => MtS w hL F nb cF cl x a' W) := by
  rintro s W W' row h hg hr
  exact h
def MtP (w : World) (fits : List Nat) (cl nb : Nat) (wt : List Int) (e : Ending) (w' : World) : Prop :=
  ((∃ hb ow, e = .returned (.tuple #[.slice (some ⟨hb, 0, none⟩) nb nb, .bool true]) ∧ HasR w' (some ⟨hb, 0, none⟩) nb nb hb 0 ow ∧ MetA fits cl wt ow ∧ w.heap.size ≤ hb) ∨ (e = .returned (.tuple #[.slice none 0 0, .bool false]) ∧ ShA fits cl wt)) ∧ Kept w w'
set_option maxRecDepth 100000 in
set_option maxHeartbeats 3200000 in
theorem meet_any (F : Option Addr) (nb cF fb fo cl : Nat) (wt : List Int) (fits : List Nat) (w : World) (hf : FitR w F nb cF fb fo fits) (hw : wt.length = 41) (hwb : ∀ o, 0 ≤ wq wt o ∧ wq wt o ≤ 60) (hcl : cl < 2 ^ 41) (hc0 : cl.testBit 0 = false) (hE : EnvT w) :
    Calls Tryz.prog 124 #[.agg (hrL F nb cF cl wt).toArray] w (MtP w fits cl nb wt) := by
  have HF := Lib.hid hf
  have h60 := hf.sz
  have hcf := hf.nc
  have hcm := hf.cm
  have hi : (Tryz.prog.info? 153).map (·.size) = some 43 := by kernel_rfl
  have hmk := make43 nb h60
  obtain ⟨W3, hW3⟩ : ∃ W3, W3 = ((w.alloc (.cells (hrL F nb cF cl wt).toArray 153)).alloc (.cells #[.slice none 0 0] 43)).alloc (.cells #[.bool false] 4) := ⟨_, rfl⟩
  have k3 : Kept w W3 := by rw [hW3]; exact (((Kept.refl w).alloc _).alloc _).alloc _
  have z3 : W3.heap.size = w.heap.size + 1 + 1 + 1 := by rw [hW3]; simp
  have R1 := Lib.hid (show RowC W3 w.heap.size (hrL F nb cF cl wt) by rw [hW3]; exact (RowC.new w _ 153).kept (((Kept.refl _).alloc _).alloc _))
  have R2 := Lib.hid (show RowC W3 (w.heap.size + 1) [.slice none 0 0] by
    rw [hW3]
    have h := (RowC.new (w.alloc (.cells (hrL F nb cF cl wt).toArray 153)) [.slice none 0 0] 43).kept ((Kept.refl _).alloc (.cells #[.bool false] 4))
    rw [World.size_alloc] at h
    exact h)
  have R3 := Lib.hid (show RowC W3 (w.heap.size + 1 + 1) [.bool false] by
    rw [hW3]
    have h := RowC.new ((w.alloc (.cells (hrL F nb cF cl wt).toArray 153)).alloc (.cells #[.slice none 0 0] 43)) [.bool false] 4
    rw [World.size_alloc, World.size_alloc] at h
    exact h)
  have a0 := (R1.out 0 _ rfl).1
  have a1 := (R1.out 1 _ rfl).1
  have HW3 := Lib.hid hW3
  have HK3 := Lib.hid k3
  have la := cell_lt a0
  clear hf hW3 k3
  refine (callsIn_wide (n := 8)).1 ?_
  refine callsIn_of_wp_marks Tryz.func124 rfl trivial ?_ rfl
  simp only [Tryz.ntmps124, List.size_toArray, List.length_cons, List.length_nil, Nat.reduceAdd, Nat.reduceSub, Array.replicate_succ, Array.replicate_zero, List.push_toArray, List.append_toArray, List.nil_append, List.cons_append]
  refine wpIn_wide.2 ?_
  go_upto_region 1 with (fail)
  rw [← HW3.out]
  go_wp2_with fail
  obtain ⟨W5, hW5⟩ : ∃ W5, W5 = (W3.alloc (.cells (zer nb).toArray 3)).alloc (.cells #[.slice (some ⟨w.heap.size + 1 + 1 + 1, 0, none⟩) nb nb] 43) := ⟨_, rfl⟩
  have k5 : Kept W3 W5 := by rw [hW5]; exact ((Kept.refl _).alloc _).alloc _
  have z5 : W5.heap.size = w.heap.size + 1 + 1 + 1 + 1 + 1 := by rw [hW5]; simp [z3]
  have hh5 : HasR W5 (some ⟨w.heap.size + 1 + 1 + 1, 0, none⟩) nb nb (w.heap.size + 1 + 1 + 1) 0 (List.replicate nb 0) := by
    have h := (has_new W3 nb 3 h60).kept ((Kept.refl _).alloc (.cells #[.slice (some ⟨w.heap.size + 1 + 1 + 1, 0, none⟩) nb nb] 43))
    rw [← hW5, z3] at h
    exact h
  have r5 : RowC W5 (w.heap.size + 1 + 1 + 1 + 1) [.slice (some ⟨w.heap.size + 1 + 1 + 1, 0, none⟩) nb nb] := by
    have h := RowC.new (W3.alloc (.cells (zer nb).toArray 3)) [.slice (some ⟨w.heap.size + 1 + 1 + 1, 0, none⟩) nb nb] 43
    rw [World.size_alloc, z3] at h
    rw [hW5]
    exact h
  rw [← hW5]
  refine (each_any cl W5).mono ?_
  rintro e w6 ⟨rfl, rfl⟩
  rw [z5]
  obtain ⟨W6, hW6⟩ : ∃ W6, W6 = W5.alloc (.cells #[.int .u64 cl] 117) := ⟨_, rfl⟩
  rw [← hW6]
  have k6 : Kept W5 W6 := by rw [hW6]; exact (Kept.refl _).alloc _
  have z6 : W6.heap.size = w.heap.size + 1 + 1 + 1 + 1 + 1 + 1 := by rw [hW6]; simp [z5]
  have c6 : W6.cell? ⟨w.heap.size + 1 + 1 + 1 + 1 + 1, 0, none⟩ = some (.int .u64 cl) := by
    rw [hW6, ← z5]; exact (RowC.new W5 [.int .u64 cl] 117 0 _ rfl).1
  have k06 : Kept w W6 := HK3.out.trans (k5.trans k6)
  have hI0 : MtI w (hrL F nb cF cl wt) nb wt fits cl [] W6 := ⟨⟨R1.out.kept (k5.trans k6), R2.out.kept (k5.trans k6), R3.out.kept (k5.trans k6)⟩, r5.kept k6, ⟨_, hh5.kept k6, by rw [← HF.out.ln]; exact skv_zero fits, fun _ => cnt_zero wt nb⟩, k06.below⟩
  have hseq := each_stopsS 7 (by omega) (w.heap.size + 1 + 1 + 1 + 1 + 1) cl (by omega) w hE W6 k06 c6
  have HK6 := Lib.hid k06
  have Z6 := Lib.hid z6
  have HE := Lib.hid hE
  have HWB := Lib.hid hwb
  have HW := Lib.hid hw
  clear hW5 hW6 k5 z5 hh5 r5 k6 c6 k06 z3 hE hwb a0 a1 la R1 R2 R3 hmk
  go_wp2_with fail
  refine (wpIn_wide (n := 8)).1 ?_
  refine wpIn_rangeFunc_ownH rfl (by omega) (gf := 200) (lb := #[.pointer (some ⟨w.heap.size + 1 + 1 + 1 + 1 + 1, 0, none⟩)]) rfl trivial (enters_of Tryz.func200 (by kernel_rfl) rfl)
    hseq KpB.trans (KpB.put HK6.out.size) (Below.refl _ _) (fun _ => rfl)
    (MtI w (hrL F nb cF cl wt) nb wt fits cl) (MtX w fits cl wt) (MtI.own _ _ _ _ _ _ _ HK6.out.size) (fun c => MtX.own _ _ _ _ _ _ HK6.out.size) hI0 (MtS w (hrL F nb cF cl wt) F nb cF cl) (fun x a' => MtS.own _ _ _ _ _ _ _ _ _) ?assign ?body ?done ?stop
  case assign =>
    intro l pre x V K hi hK
    gi_wp2
    exact hK _ _ (KeepsFrom.refl _ _) (Below.refl _ _) hi rfl
  case body =>
    rintro l pre ⟨o, hob⟩ a' V hl2 - hi rfl hlt2
    obtain ⟨⟨r1, r2, r3⟩, r4, ⟨ow, hh, hv, hc⟩, hb⟩ := hi
    have ho2 : o ≤ 40 := by
      rcases Nat.lt_or_ge o 41 with h1 | h1
      · omega
      · rw [Nat.testBit_lt_two_pow (Nat.lt_of_lt_of_le hcl (Nat.pow_le_pow_right (by omega) h1))] at hob; cases hob
    have ho1 : 1 ≤ o := by
      rcases Nat.eq_zero_or_pos o with rfl | h1
      · rw [hc0] at hob; cases hob
      · exact h1
    obtain ⟨N, hN⟩ : ∃ N, wq wt o = N := ⟨_, rfl⟩
    have hNb := HWB.out o
    rw [hN] at hNb
    obtain ⟨n, rfl⟩ : ∃ n : Nat, N = (n : Int) := ⟨N.toNat, by omega⟩
    have hwt : wt[o]? = some (n : Int) := by
      rw [← hN]; unfold wq
      rw [List.getD_eq_getElem?_getD, List.getElem?_eq_getElem (by omega)]; rfl
    have b2 := (r1 (2 + o) (.int .i64 (n : Int)) (by rw [Nat.add_comm]; simp [hrL, hwt])).1
    have lb := cell_lt b2
    have HOB := Lib.hid hob
    have HN := Lib.hid hN
    have HMR := Lib.hid (show MtR w (hrL F nb cF cl wt) V from ⟨r1, r2, r3⟩)
    have HR4 := Lib.hid r4
    have HH := Lib.hid hh
    have HV := Lib.hid hv
    have HC := Lib.hid hc
    have HB := Lib.hid hb
    have HL2 := Lib.hid hl2
    clear hN r1 r2 r3 r4 hh hv hc hb hl2 hlt2 hI0 hseq hwt
    gi_wp2_with fail
    clear b2
    gi_loopw [18] (fun v w1 => ∃ k : Nat, k ≤ n ∧ v = .int .i64 k ∧ MtR w (hrL F nb cF cl wt) w1 ∧ RowC w1 (w.heap.size + 1 + 1 + 1 + 1) [.slice (some ⟨w.heap.size + 1 + 1 + 1, 0, none⟩) nb nb] ∧ (∃ ow', HasR w1 (some ⟨w.heap.size + 1 + 1 + 1, 0, none⟩) nb nb (w.heap.size + 1 + 1 + 1) 0 ow' ∧ SkV fits ow' ∧ (∀ q : Int, q ≠ 0 → q ≠ (o : Int) → ow'.count q = ow.count q) ∧ ow'.count (o : Int) = ow.count (o : Int) + k) ∧ Below w.heap.size w w1 ∧ KeepsFrom W6.heap.size V w1) (fun v _ => n - (intOf v).toNat)
    case atStart => exact ⟨0, by omega, by first | rfl | go_num, HMR.out, HR4.out, ⟨ow, HH.out, HV.out, fun _ _ _ => rfl, rfl⟩, HB.out, KeepsFrom.refl _ _⟩
    case round =>
      obtain ⟨k, hk, rfl, hmr, h4, ⟨ow1, hh1, hv1, hq1, ho1'⟩, hb1, hkf⟩ := hrel
      have HMR1 := Lib.hid hmr
      have HR41 := Lib.hid h4
      have HH1 := Lib.hid hh1
      have HV1 := Lib.hid hv1
      have HQ1 := Lib.hid hq1
      have HO1 := Lib.hid ho1'
      have HB1 := Lib.hid hb1
      have HKF := Lib.hid hkf
      have c4 := (h4 0 _ rfl).1
      have l4 := cell_lt c4
      have s1 := (hmr.2.1 0 _ rfl)
      have s2 := (hmr.2.2 0 _ rfl)
      have HRG : RowKit.Hid (wr.rangeAt w.heap.size 0 (hrL F nb cF cl wt)) := Lib.hid (fun j v hv => by rw [Nat.zero_add]; exact (hmr.1 j v hv).1)
      have HSZ : RowKit.Hid ((Tryz.prog.info? 153).map (·.size) = some (hrL F nb cF cl wt).length) := Lib.hid (by rw [hi]; simp [hrL, hw])
      have HFr := Lib.hid ((HF.out.kept (show Kept w wr from hb1)))
      have HG : RowKit.Hid (Calls Tryz.prog 130 #[.agg (hrL F nb cF cl wt).toArray, .slice (some ⟨w.heap.size + 1 + 1 + 1, 0, none⟩) nb nb, .int .i64 (o : Int)] wr (GnP w wr (some ⟨w.heap.size + 1 + 1 + 1, 0, none⟩) nb nb (w.heap.size + 1 + 1 + 1) 0 fits o ow1)) := Lib.hid (gain_any w wr F _ nb cF fb fo nb _ 0 cl o wt fits ow1 hb1 HFr.out hh1 hv1 (by have := HF.out.lt; omega) (by omega) ho1 ho2)
      clear hmr h4 hh1 hv1 hq1 ho1' hb1 hkf
      by_cases hlt : k < n
      · gi_wp2_with (refine wpListIn_load_mid rfl 153 (.tmp 1) rfl w.heap.size 0 rfl (hrL F nb cF cl wt) _ HRG.out Tryz.underlying153 rfl HSZ.out ?_)
        refine ⟨trivial, (CallsIn.inRound l (callsIn_wide.2 HG.out)).mono ?_⟩
        rintro e w2 ⟨ow2, r, rfl, hh2, hv2, hk2, hs2, hz2, ht, hf2⟩
        have HH2 := Lib.hid hh2
        have HV2 := Lib.hid hv2
        have HK2 := Lib.hid hk2
        have HZ2 := Lib.hid hz2
        have HS2 := Lib.hid hs2
        have HMR2 := Lib.hid (show MtR w (hrL F nb cF cl wt) w2 from ⟨rowc_heap (hs2 _ (cell_lt (HMR1.out.1 0 _ rfl).1) (by omega)) HMR1.out.1, rowc_heap (hs2 _ (cell_lt (HMR1.out.2.1 0 _ rfl).1) (by omega)) HMR1.out.2.1, rowc_heap (hs2 _ (cell_lt (HMR1.out.2.2 0 _ rfl).1) (by omega)) HMR1.out.2.2⟩)
        have HR42 := Lib.hid (rowc_heap (hs2 _ l4 (by omega)) HR41.out)
        have HKF2 := Lib.hid (show KeepsFrom W6.heap.size V w2 from HKF.out.trans ⟨hz2, fun kk o hB hk ho => (hs2 kk (Array.getElem?_eq_some_iff.1 hk).1 (by have := Z6.out; omega)).trans hk⟩)
        have t1 := (HMR2.out.2.1 0 _ rfl)
        have t2 := (HMR2.out.2.2 0 _ rfl)
        have HT := Lib.hid ht
        have HF2 := Lib.hid hf2
        clear hh2 hv2 hk2 hz2 hs2 ht hf2 c4 s1 s2
        cases r
        · obtain ⟨t11, t12⟩ := t1
          obtain ⟨t21, t22⟩ := t2
          have l1 := cell_lt t11
          have l2 := cell_lt t21
          have hf3 := HF2.out (Eq.refl false)
          obtain ⟨rfl, av, hav, hsq⟩ := hf3
          have HSH : RowKit.Hid (Coh cl (pre ++ [⟨o, hob⟩]) → ShA fits cl wt) := Lib.hid (fun hco => by
            obtain ⟨hco1, hnot⟩ := hco.init
            have hcnt := HC.out hco1
            have hz : ((ow.count (o : Int) : Nat) : Int) = 0 := by rw [hcnt o ho1 ho2, if_neg hnot]
            refine ⟨ow2, av, o, HV2.out, fun q h1 h2 => ?_, ho1, ho2, ?_, hav, hsq⟩
            · by_cases hqo : q = o
              · subst hqo
                rw [HO1.out]
                unfold wc
                rw [if_pos hob, HN.out]
                omega
              · rw [HQ1.out (q : Int) (by omega) (by omega), hcnt q h1 h2]
                unfold wc
                by_cases hm : q ∈ pre.map (·.1)
                · rw [if_pos hm]
                  obtain ⟨⟨y, hy⟩, _, rfl⟩ := List.mem_map.1 hm
                  rw [if_pos hy]
                  exact Int.le_refl _
                · rw [if_neg hm]
                  split
                  · exact (HWB.out q).1
                  · exact Int.le_refl _
            · rw [HO1.out]
              unfold wc
              rw [if_pos hob, HN.out]
              omega)
          clear hsq hav
          gi_wp2_with fail
          refine ⟨HKF2.out.trans (((KeepsOthers.setCell _ _ _).trans (KeepsOthers.setCell _ _ _)).from _), rfl, ?_, ?_, HSH.out, ?_⟩
          · exact (HMR2.out.2.1.put (j := 0) (by simp) (.slice none 0 0)).far (by omega) _
          · exact (HMR2.out.2.2.far (by omega) _).put (j := 0) (by simp) (.bool false)
          · exact (HK2.out.below.setCell (p := ⟨w.heap.size + 1, 0, none⟩) (by dsimp only; omega) _).setCell (p := ⟨w.heap.size + 1 + 1, 0, none⟩) (by dsimp only; omega) _
        · clear t1 t2
          have HT3 := Lib.hid (HT.out (Eq.refl true))
          gi_wp2_with fail
          go_roundw
          case rel => exact ⟨k + 1, by omega, by go_num, HMR2.out, HR42.out, ⟨ow2, HH2.out, HV2.out, fun q h1 h2 => (HT3.out.1 q h1 h2).trans (HQ1.out q h1 h2), by rw [HT3.out.2, HO1.out]; omega⟩, HK2.out.below, HKF2.out⟩
          case measure => simp [intOf]; omega
      · obtain rfl : k = n := by omega
        gi_wp2_with fail
        refine ⟨HKF.out, below_between HB.out HB1.out HKF.out.size, HMR1.out, HR41.out, ⟨ow1, HH1.out, HV1.out, fun hco => ?_⟩, HB1.out⟩
        obtain ⟨hco1, hnot⟩ := hco.init
        have hcnt := HC.out hco1
        intro q h1 h2
        rw [List.map_append, List.map_cons, List.map_nil]
        by_cases hqo : q = o
        · subst hqo
          have hz := hcnt q h1 h2
          rw [if_neg hnot] at hz
          rw [if_pos (by simp), HN.out, HO1.out]
          omega
        · rw [HQ1.out (q : Int) (by omega) (by omega), hcnt q h1 h2]
          have : (q ∈ pre.map (·.1) ++ [o]) ↔ q ∈ pre.map (·.1) := by simp [hqo]
          simp only [this]
  case done =>
    rintro D ys V hD rfl ⟨⟨r1, r2, r3⟩, r4, ⟨ow, hh, hv, hc⟩, hb⟩ hK
    have hc4 := (r4 0 _ rfl).1
    have l4 := cell_lt hc4
    obtain ⟨t11, t12⟩ := r2 0 _ rfl
    obtain ⟨t21, t22⟩ := r3 0 _ rfl
    have l1 := cell_lt t11
    have l2 := cell_lt t21
    have R2 := Lib.hid r2
    have R3 := Lib.hid r3
    have HH := Lib.hid hh
    have HB := Lib.hid hb
    have HM : RowKit.Hid (MetA fits cl wt ow) := Lib.hid ⟨hv, fun q h1 h2 => by
      have h := hc (Coh.pre (List.prefix_refl _)) q h1 h2
      rw [h, bitsS_map]
      unfold wc
      by_cases hq : cl.testBit q = true
      · rw [if_pos ((bitsK_mem hcl).2 hq), if_pos hq]
      · rw [if_neg (fun h => hq ((bitsK_mem hcl).1 h)), if_neg hq]⟩
    have HKD := Lib.hid hK
    clear r1 r2 r3 r4 hh hv hc hb hI0 hseq
    go_wp2
    obtain ⟨V2, hV2⟩ : ∃ V2, V2 = ((V.setCell ⟨w.heap.size + 1, 0, none⟩ (.slice (some ⟨w.heap.size + 1 + 1 + 1, 0, none⟩) nb nb)).setCell ⟨w.heap.size + 1 + 1, 0, none⟩ (.bool true)) := ⟨_, rfl⟩
    have hK2 : V2.heap[D]? = some (.deferred (some [])) := by
      rw [hV2, heap_set (by dsimp only; have := Z6.out; omega), heap_set (by dsimp only; have := Z6.out; omega)]; exact HKD.out
    rw [← hV2]
    refine ⟨by simp, .inl ⟨_, _, rfl, run_takeDeferred hK2, ?_⟩⟩
    have hpb : ∀ b, b ≠ D → (V2.putObj D (.deferred none)).heap[b]? = V2.heap[b]? := fun b hb => World.putObj_heap_other (by omega)
    have q1 : RowC V2 (w.heap.size + 1) [.slice (some ⟨w.heap.size + 1 + 1 + 1, 0, none⟩) nb nb] := by
      rw [hV2]; exact (R2.out.put (j := 0) (by simp) _).far (by omega) _
    have q2 : RowC V2 (w.heap.size + 1 + 1) [.bool true] := by
      rw [hV2]; exact (R3.out.far (by omega) _).put (j := 0) (by simp) _
    have q3 : HasR V2 (some ⟨w.heap.size + 1 + 1 + 1, 0, none⟩) nb nb (w.heap.size + 1 + 1 + 1) 0 ow := by
      rw [hV2]
      have hz : ∀ b, b ≠ w.heap.size + 1 → b ≠ w.heap.size + 1 + 1 → ((V.setCell ⟨w.heap.size + 1, 0, none⟩ (.slice (some ⟨w.heap.size + 1 + 1 + 1, 0, none⟩) nb nb)).setCell ⟨w.heap.size + 1 + 1, 0, none⟩ (.bool true)).heap[b]? = V.heap[b]? := fun b h1 h2 => (heap_set (by dsimp only; omega)).trans (heap_set (by dsimp only; omega))
      exact hasr_heap (hz _ (by omega) (by omega)) (by rw [size_set, size_set]; exact Nat.le_refl _) HH.out
    have hzz := Z6.out
    have q1' := rowc_heap (hpb _ (by omega)) q1
    have q2' := rowc_heap (hpb _ (by omega)) q2
    have c1 := (q1' 0 _ rfl).1
    have c2 := (q2' 0 _ rfl).1
    refine ⟨.tuple #[.slice (some ⟨w.heap.size + 1 + 1 + 1, 0, none⟩) nb nb, .bool true], by simp [results, Tryz.results124, go_sem, c1, c2], .inl ⟨_, ow, rfl, hasr_heap (hpb _ (by omega)) (by simp) q3, HM.out, by omega⟩, ?_⟩
    have hk2 : Kept w V2 := by
      rw [hV2]
      exact (show Kept w V from HB.out).setCell (p := ⟨w.heap.size + 1, 0, none⟩) (by dsimp only; omega) _ |>.setCell (p := ⟨w.heap.size + 1 + 1, 0, none⟩) (by dsimp only; omega) _
    exact hk2.putDeferred (by have := HK6.out.size; omega) hK2 rfl rfl
  case stop =>
    rintro D c pre V hD hp ⟨rfl, r2, r3, hsh, hb⟩ hK
    have hzz := Z6.out
    have HSH := Lib.hid (hsh (Coh.pre hp))
    gi_wp2
    refine ⟨by simp, .inl ⟨_, _, rfl, run_takeDeferred hK, ?_⟩⟩
    have hpb : ∀ b, b ≠ D → (V.putObj D (.deferred none)).heap[b]? = V.heap[b]? := fun b hb => World.putObj_heap_other (by omega)
    have q1' := rowc_heap (hpb _ (by omega)) r2
    have q2' := rowc_heap (hpb _ (by omega)) r3
    have c1 := (q1' 0 _ rfl).1
    have c2 := (q2' 0 _ rfl).1
    refine ⟨.tuple #[.slice none 0 0, .bool false], by simp [results, Tryz.results124, go_sem, c1, c2], .inr ⟨rfl, HSH.out⟩, ?_⟩
    exact (show Kept w V from hb).putDeferred (by have := HK6.out.size; omega) hK rfl rfl
end Go.Proofs.YtologmoanaccpaaGreatDoor
