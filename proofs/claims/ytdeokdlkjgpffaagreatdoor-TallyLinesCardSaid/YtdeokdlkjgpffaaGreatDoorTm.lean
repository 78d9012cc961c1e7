/- rows of cells; a loop over an iterator that goes over another; the re-counts that count -/
import Derived.Test.YtdeokdlkjgpffaaGreatDoorTd
import Derived.RangeFuncNested
import Derived.RangeFuncBound
import Derived.RangeFuncCalls
import Derived.RangeFuncLeaves
import Derived.Shelf.Abstract
import Derived.Shelf.RegionOpen
import Derived.WalkKit
import Derived.OwnWalkIn
import Derived.TacticsInMore
import Derived.LoopNIn
import Derived.LoopIn
namespace Go.Proofs.YtdeokdlkjgpffaaGreatDoor
set_option linter.all false
open Go.RowKit Go.Shelf
attribute [local go_sem] Oper.semAt_some

/-- block b holds the values vs, in cells that may be written -/
def RowC (W : World) (b : Nat) (vs : List Value) : Prop := ∀ j v, vs[j]? = some v → W.cell? ⟨b, j, none⟩ = some v ∧ W.frozen? ⟨b, j, none⟩ = false
theorem RowC.kept {W W' : World} {b : Nat} {vs : List Value} (h : RowC W b vs) (hk : Kept W W') : RowC W' b vs := fun j v hv => ⟨(hk.cells _ _ (cell_lt (h j v hv).1)).trans (h j v hv).1, (hk.frozens _ _ (cell_lt (h j v hv).1)).trans (h j v hv).2⟩
theorem RowC.new (W : World) (vs : List Value) (t : TypeId) : RowC (W.alloc (.cells vs.toArray t)) W.heap.size vs := fun j v hv =>
  ⟨by rw [cell_of_row _ _ _ _ _ _ (heap_alloc_new W _)]; simpa using hv, by unfold World.frozen?; rw [show (⟨W.heap.size, j, none⟩ : Addr).block = W.heap.size from rfl, heap_alloc_new W _]; simp⟩
theorem RowC.own (B : Nat) (b : Nat) {β : Type} (f : β → List Value) : OwnFrom B (fun (s : β) W => RowC W b (f s)) :=
  Own.from (I := fun (s : β) W => RowC W b (f s)) (fun s X Y row hs hg hr j v hv => ⟨cell_kept (hs j v hv).1 hg hr, (frozen_kept (hs j v hv).1 hg hr).trans (hs j v hv).2⟩) B
theorem RowC.far {W : World} {b b' j : Nat} {vs : List Value} (h : RowC W b vs) (hne : b ≠ b') (u : Value) : RowC (W.setCell ⟨b', j, none⟩ u) b vs := fun i v hv =>
  ⟨by rw [World.cell?_setCell_far _ _ _ _ (by simpa using Ne.symm hne)]; exact (h i v hv).1, by rw [World.frozen?_setCell]; exact (h i v hv).2⟩
theorem RowC.put {W : World} {b j : Nat} {vs : List Value} (h : RowC W b vs) (hj : j < vs.length) (u : Value) : RowC (W.setCell ⟨b, j, none⟩ u) b (vs.set j u) := by
  intro i v hv
  have hl : i < vs.length := by have := (List.getElem?_eq_some_iff.1 hv).1; simpa using this
  have hi := h i vs[i] (List.getElem?_eq_getElem hl)
  refine ⟨?_, by rw [World.frozen?_setCell]; exact hi.2⟩
  by_cases e : j = i
  · subst e
    rw [List.getElem?_set_self hj] at hv
    cases hv
    exact World.cell?_setCell_same' _ _ _ (by rw [hi.1]; rfl)
  · rw [List.getElem?_set_ne e] at hv
    exact (World.cell?_setCell_other (w := W) (a := ⟨b, j, none⟩) (b := ⟨b, i, none⟩) (v := u) (by simpa using e)).trans (h i v hv).1
theorem RowC.drew {W : World} {b : Nat} {vs : List Value} (h : RowC W b vs) : RowC W.drew b vs := fun j v hv => h j v hv
theorem RowC.atn {W : World} {vs : List Value} {t : TypeId} {m : Nat} (h : W.heap.size = m) : RowC (W.alloc (.cells vs.toArray t)) m vs := by subst h; exact RowC.new W vs t
theorem Kept.others {W W' : World} (h : Kept W W') : KeepsOthers W W' := ⟨h.size, fun k o hk _ => (h.block k (Array.getElem?_eq_some_iff.1 hk).1).trans hk⟩

/-- a re-count -/
structure Rcn where
  id : Int
  dy : Int
  kn : Int
  sh : Int
  tr : Int
  nu : Int
def rcV (x : Rcn) : Value := .agg #[.int .i64 x.id, .int .i64 x.dy, .int .i64 x.kn, .int .i64 x.sh, .int .i64 x.tr, .int .i64 x.nu]
def rcCells (x : Rcn) : List Value := [.int .i64 x.id, .int .i64 x.dy, .int .i64 x.kn, .int .i64 x.sh, .int .i64 x.tr, .int .i64 x.nu]
/-- re-count x lies at o of block b -/
def RcAt (w : World) (b o : Nat) (x : Rcn) : Prop :=
  w.cell? ⟨b, o, none⟩ = some (.int .i64 x.id) ∧ w.cell? ⟨b, o + 1, none⟩ = some (.int .i64 x.dy) ∧ w.cell? ⟨b, o + 2, none⟩ = some (.int .i64 x.kn) ∧
  w.cell? ⟨b, o + 3, none⟩ = some (.int .i64 x.sh) ∧ w.cell? ⟨b, o + 4, none⟩ = some (.int .i64 x.tr) ∧ w.cell? ⟨b, o + 5, none⟩ = some (.int .i64 x.nu)
theorem RcAt.lt {w : World} {b o : Nat} {x : Rcn} (h : RcAt w b o x) : b < w.heap.size := cell_lt h.1
theorem RcAt.kept {w w' : World} {b o : Nat} {x : Rcn} (h : RcAt w b o x) (hk : Kept w w') : RcAt w' b o x := by
  have hb := h.lt
  obtain ⟨h0, h1, h2, h3, h4, h5⟩ := h
  exact ⟨(hk.cells _ _ hb).trans h0, (hk.cells _ _ hb).trans h1, (hk.cells _ _ hb).trans h2, (hk.cells _ _ hb).trans h3, (hk.cells _ _ hb).trans h4, (hk.cells _ _ hb).trans h5⟩
def RcT (w : World) (b off : Nat) (xs : List Rcn) : Prop := ∀ i x, xs[i]? = some x → RcAt w b (off + i * 6) x
theorem RcT.kept {w w' : World} {b off : Nat} {xs : List Rcn} (h : RcT w b off xs) (hk : Kept w w') : RcT w' b off xs := fun i x hx => (h i x hx).kept hk
/-- a slice that holds the re-counts xs -/
def RcA (w : World) (A : Option Addr) (n c : Nat) (xs : List Rcn) : Prop :=
  xs.length = n ∧ n ≤ c ∧ c ≤ 9223372036854775807 ∧ (0 < n → ∃ b off, A = some ⟨b, off, none⟩ ∧ RcT w b off xs)
theorem RcA.kept {w w' : World} {A : Option Addr} {n c : Nat} {xs : List Rcn} (h : RcA w A n c xs) (hk : Kept w w') : RcA w' A n c xs :=
  ⟨h.1, h.2.1, h.2.2.1, fun hn => by
    obtain ⟨b, off, e, ht⟩ := h.2.2.2 hn
    exact ⟨b, off, e, ht.kept hk⟩⟩

/-- what a round of a loop over an iterator keeps, so that the iterator may stand in a loop of its own -/
def Far (n1 : Nat) (W W' : World) : Prop := W.heap.size ≤ W'.heap.size ∧ ∀ k, n1 ≤ k → k < W.heap.size → W'.heap[k]? = W.heap[k]?
theorem Far.refl (n1 : Nat) (W : World) : Far n1 W W := ⟨Nat.le_refl _, fun _ _ _ => rfl⟩
theorem Far.trans {n1 : Nat} {A B C : World} (h : Far n1 A B) (k : Far n1 B C) : Far n1 A C := ⟨Nat.le_trans h.1 k.1, fun i h1 h2 => (k.2 i h1 (Nat.lt_of_lt_of_le h2 h.1)).trans (h.2 i h1 h2)⟩
theorem Far.of_kept {n1 : Nat} {W W' : World} (h : Kept W W') : Far n1 W W' := ⟨h.size, fun k _ hk => h.block k hk⟩
theorem Far.of_grownBy {n1 : Nat} {W W' : World} {row : Option Nat} (hg : W.grownBy W' row) (hrow : ∀ j, row = some j → j < n1) : Far n1 W W' :=
  ⟨hg.size, fun k h1 h2 => hg.block k h2 (fun e => by have := hrow k e.symm; omega)⟩
theorem Far.put {n1 l : Nat} (W : World) (o : Obj) (h : l < n1) : Far n1 W (W.putObj l o) := Far.of_grownBy (grownBy_putObj' W l o) (fun j e => by cases e; exact h)
theorem Far.setCell {n1 b j : Nat} (W : World) (u : Value) (h : b < n1) : Far n1 W (W.setCell ⟨b, j, none⟩ u) :=
  ⟨by simp [World.setCell], fun k h1 _ => Below.heap_setCell _ _ _ _ (fun (e : k = b) => absurd e (by omega))⟩
theorem Far.keeps {n1 : Nat} {W W' : World} (h : Far n1 W W') : KeepsFrom n1 W W' := ⟨h.1, fun k o hk h1 _ => (h.2 k hk (Array.getElem?_eq_some_iff.1 h1).1).trans h1⟩
theorem Far.row {n1 b : Nat} {W W' : World} {vs : List Value} (h : Far n1 W W') (hb : n1 ≤ b) (hr : RowC W b vs) : RowC W' b vs := fun j v hv => by
  have hlt := cell_lt (hr j v hv).1
  have e := h.2 b hb hlt
  refine ⟨?_, ?_⟩
  · have := (hr j v hv).1
    unfold World.cell? at this ⊢
    rw [show (⟨b, j, none⟩ : Addr).block = b from rfl] at this ⊢
    rw [e]; exact this
  · have := (hr j v hv).2
    unfold World.frozen? at this ⊢
    rw [show (⟨b, j, none⟩ : Addr).block = b from rfl] at this ⊢
    rw [e]; exact this
/-- what lies below n0 and what lies at n1 and beyond lie as they lay -/
def KpL (n0 n1 : Nat) (W W' : World) : Prop := Below n0 W W' ∧ Far n1 W W'
theorem KpL.trans {n0 n1 : Nat} {A B C : World} (h : KpL n0 n1 A B) (k : KpL n0 n1 B C) : KpL n0 n1 A C := ⟨h.1.trans k.1, h.2.trans k.2⟩
theorem keepsFrom_le {B B' : Nat} {W W' : World} (h : KeepsFrom B W W') (hB : B ≤ B') : KeepsFrom B' W W' := ⟨h.size, fun k o hk h1 h2 => h.same k o (Nat.le_trans hB hk) h1 h2⟩
theorem keepsFrom_put {n1 l : Nat} {W : World} (o : Obj) (h : l < n1) : KeepsFrom n1 W (W.putObj l o) := KeepsFrom.of_grownBy (grownBy_putObj' W l o) (fun j e => by cases e; exact h)

/-- an iterator's contract, whose own loops may lie at n1 and beyond -/
def SeqAt {α : Type} (n gf : Nat) (lb : Array Value) (encs : α → Array Value) (n0 n1 : Nat) (S Sp : List α → Prop) (N : Nat) (w : World) : Prop :=
  ∀ (l : Nat) (J Jx : List α → World → Prop) (W : World), Below w.heap.size w W → n1 ≤ W.heap.size → OwnFrom W.heap.size J → OwnFrom W.heap.size Jx →
  (∀ pre x W1, J pre W1 → pre.length < N → YieldAt Fence.wide (n - 1) Tryz.prog l (encs x) W1 fun e W' =>
    (e = .returned (.bool true) ∧ J (pre ++ [x]) W' ∧ KpL n0 n1 W1 W') ∨ (e = .returned (.bool false) ∧ Jx (pre ++ [x]) W' ∧ KeepsFrom n1 W1 W')) →
  J [] W →
  CallsIn Fence.wide n Tryz.prog gf (#[.func (.yield l) #[] #[]] ++ lb) W fun e W' => (∃ v, e = .returned v) ∧ ((∃ xs, S xs ∧ J xs W') ∨ (∃ pre, Sp pre ∧ Jx pre W'))

theorem ownFrom_loop {α : Type} {B l : Nat} {I : List α → World → Prop} {o o2 : Obj} {D : Nat} {B' : Nat} (hI : OwnFrom B' I) (hB : B' ≤ B) (hl : l < B) (hD : D < B) :
    OwnFrom B (fun pre W => I pre W ∧ W.heap[l]? = some o ∧ W.heap[D]? = some o2) := by
  intro s X Y row hs hg hr
  refine ⟨hI s X Y row hs.1 hg (fun r e => ⟨Nat.le_trans hB (hr r e).1, (hr r e).2⟩), ?_, ?_⟩
  · exact (hg.block l (Array.getElem?_eq_some_iff.1 hs.2.1).1 (fun e => by have := (hr l e.symm).1; omega)).trans hs.2.1
  · exact (hg.block D (Array.getElem?_eq_some_iff.1 hs.2.2).1 (fun e => by have := (hr D e.symm).1; omega)).trans hs.2.2

/-- **a loop over such an iterator** -/
theorem rangeOver {α : Type} {n : Nat} {g : Operand} {ps : Array Tmp} {assign body : Code} {Q : Exit → Act → World → Prop} {a : Act} {w : World} (h1 : 1 ≤ n)
    {gf : Nat} {lb : Array Value} (hg : a.eval g = .func (.func gf) #[] lb) (eg : ∀ args w, (callFunc gf args).run Tryz.prog w = .ok (.enter gf args) w)
    {encs : α → Array Value} {n0 : Nat} {S Sp : List α → Prop} {N : Nat} (hn0 : n0 ≤ w.heap.size) (hseq : SeqAt (n - 1) gf lb encs n0 (w.heap.size + 2) S Sp N w) (hps : ∀ x, (encs x).size = ps.size)
    (I : List α → World → Prop) (Ix : Code → List α → World → Prop) (hI : OwnFrom w.heap.size I) (hIx : ∀ c, OwnFrom w.heap.size (Ix c)) (h0 : I [] w) (Ax : α → Act → World → Prop) (hAx : ∀ x a', OwnFrom w.heap.size (fun (_ : Unit) W => Ax x a' W))
    (hassign : ∀ (l : Nat) (pre : List α) (x : α) (W : World) (K : Act → World → Prop), I pre W → (∀ a' W', KeepsFrom w.heap.size W W' → KpL n0 (w.heap.size + 2) W W' → I pre W' → Ax x a' W' → K a' W') →
      assign.wpIn (Fence.wide.inRound l) (n - 1 - 1) Tryz.prog (Exit.then K (fun _ _ _ => False)) { tmps := (ps.zip (encs x)).foldl (fun t (p, v) => t.setIfInBounds p v) a.tmps, defers := [] } W)
    (hbody : ∀ (l : Nat) (pre : List α) (x : α) (a' : Act) (W : World), I pre W → Ax x a' W → pre.length < N → body.wpIn (Fence.wide.inRound l) (n - 1 - 1) Tryz.prog (ownPostG w.heap.size (KpL n0 (w.heap.size + 2)) I Ix (pre ++ [x]) W) a' W)
    (hdone : ∀ (D : Nat) (xs : List α) (W : World), w.heap.size ≤ D → S xs → I xs W → W.heap[D]? = some (.deferred (some [])) → Q .normal { a with defers := { target := .collected D, args := #[] } :: a.defers } W)
    (hstop : ∀ (D : Nat) (c : Code) (pre : List α) (W : World), w.heap.size ≤ D → Sp pre → Ix c pre W → W.heap[D]? = some (.deferred (some [])) → c.wpIn Fence.wide n Tryz.prog Q { a with defers := { target := .collected D, args := #[] } :: a.defers } W) :
    (Code.rangeFunc g ps assign body).wpIn Fence.wide n Tryz.prog Q a w := by
  refine wpIn_rangeFunc ?_
  intro fn hfn
  have hro : Fence.wide.round = none := rfl
  rw [hro]
  obtain ⟨R, hR⟩ : ∃ R : LoopState → Option Code → Loop, R = fun st pe => { state := st, pending := pe, fn, tmps := a.tmps, params := ps, assign, body, defers := w.heap.size } := ⟨_, rfl⟩
  obtain ⟨L, hL⟩ : ∃ L, L = w.heap.size + 1 := ⟨_, rfl⟩
  obtain ⟨V, hV⟩ : ∃ V, (w.alloc (.deferred (some []))).alloc (.loop (R .ready none)) = V := ⟨_, rfl⟩
  have zV : V.heap.size = w.heap.size + 2 := by rw [← hV]; simp
  have lV : V.heap[L]? = some (.loop (R .ready none)) := by
    have := heap_alloc_new (w.alloc (.deferred (some []))) (.loop (R .ready none))
    rw [World.size_alloc, ← hL, hV] at this
    exact this
  have dV : V.heap[w.heap.size]? = some (.deferred (some [])) := by
    rw [← hV]; exact (Below.heap_alloc _ _ _ (by simp)).trans (heap_alloc_new w _)
  have iV : I [] V := by rw [← hV]; exact hI.alloc _ (hI.alloc _ h0)
  have bV : Below w.heap.size w V := by rw [← hV]; exact ((Below.refl _ w).alloc (Nat.le_refl _) _).alloc (by simp) _
  refine ⟨L, [{ target := .collected w.heap.size, args := #[] }], V, { target := .fn (.func gf) lb, args := #[.func (.yield L) #[] #[]] }, V, gf, #[.func (.yield L) #[] #[]] ++ lb, V, ?_, ?_, ?_, ?_, fun _ => h1, ?_⟩
  · rw [← hV, hR, hL]; exact run_enterLoop_outer _ _ _ _ _
  · simp only [resolve, hg]
    simp [go_sem]
  · intro f' hf'; trivial
  · simp [invoke, go_sem, eg]
  · refine (hseq L (fun pre W => I pre W ∧ W.heap[L]? = some (.loop (R .ready none)) ∧ W.heap[w.heap.size]? = some (.deferred (some [])))
      (fun pre W => ∃ c, Ix c pre W ∧ W.heap[L]? = some (.loop (R .done (some c))) ∧ W.heap[w.heap.size]? = some (.deferred (some [])))
      V bV (by omega) (ownFrom_loop hI (by omega) (by omega) (by omega))
      (fun s X Y row hs hgr hr => by
        obtain ⟨c, hc⟩ := hs
        exact ⟨c, ownFrom_loop (o := .loop (R .done (some c))) (hIx c) (B := V.heap.size) (by omega) (by omega) (by omega) s X Y row hc hgr hr⟩)
      ?_ ⟨iV, lV, dV⟩).mono ?_
    · rintro pre x W ⟨hi, hl, hd⟩ hlen
      have hy := run_yield (P := Tryz.prog) (args := encs x) hl (by rw [hR]; exact hps x)
      rw [hR] at hy
      refine ⟨fn, _, assign, body, hy, roundIn_of_wpIn hfn (hassign _ pre x W _ hi ?_)⟩
      clear hy
      intro a' Wa hka hba hia hax
      have hla := hka.same _ _ (by omega) hl rfl
      have hda := hka.same _ _ (Nat.le_refl _) hd rfl
      have hlt : L < Wa.heap.size := (Array.getElem?_eq_some_iff.1 hla).1
      refine ⟨_, run_beginRound hla (by rw [hR]), ?_⟩
      have hl2 : (Wa.putObj L (.loop { R .ready none with state := .busy })).heap[L]? = some (.loop { R .ready none with state := .busy }) := World.putObj_heap_same hlt
      have hd2 : (Wa.putObj L (.loop { R .ready none with state := .busy })).heap[w.heap.size]? = some (.deferred (some [])) := (World.putObj_heap_other (by omega)).trans hda
      have bp : ∀ (X : World) (o : Obj), L < X.heap.size → KpL n0 (w.heap.size + 2) X (X.putObj L o) := fun X o hX => ⟨(Below.refl n0 X).grown (grownBy_putObj' X L o) (by omega) (fun k e => by cases e; omega), Far.put X o (by omega)⟩
      have kn1 : KeepsFrom (w.heap.size + 2) W Wa := keepsFrom_le hka (by omega)
      refine wpIn_mono (hbody _ pre x a' _ (hI.putObj _ hia (by omega) hla rfl) ((hAx x a').putObj (s := ()) _ hax (by omega) hla rfl) hlen) ?_
      have fin : ∀ (jump : Option Code) (W3 : World), KeepsFrom w.heap.size (Wa.putObj L (.loop { R .ready none with state := .busy })) W3 →
          (Instr.endRound L jump).run Tryz.prog W3 = .ok (.bool jump.isNone) (W3.putObj L (.loop (R (if jump.isNone then .ready else .done) jump))) ∧ W3.heap[L]? = some (.loop { R .ready none with state := .busy }) ∧
          (W3.putObj L (.loop (R (if jump.isNone then .ready else .done) jump))).heap[L]? = some (.loop (R (if jump.isNone then .ready else .done) jump)) ∧
          (W3.putObj L (.loop (R (if jump.isNone then .ready else .done) jump))).heap[w.heap.size]? = some (.deferred (some [])) ∧
          KeepsFrom (w.heap.size + 2) W (W3.putObj L (.loop (R (if jump.isNone then .ready else .done) jump))) := fun jump W3 hk3 => by
        have hl3 := hk3.same _ _ (by omega) hl2 rfl
        have e := run_endRound (P := Tryz.prog) jump hl3
        rw [hR] at e ⊢
        exact ⟨e, by rw [hR] at hl3; exact hl3, World.putObj_heap_same (Array.getElem?_eq_some_iff.1 hl3).1, (World.putObj_heap_other (by omega)).trans (hk3.same _ _ (Nat.le_refl _) hd2 rfl),
          ((kn1.trans (keepsFrom_put _ (by omega))).trans (keepsFrom_le hk3 (by omega))).trans (keepsFrom_put _ (by omega))⟩
      rintro e a3 W3 hp
      cases e with
      | normal =>
        obtain ⟨hk3, hb3, hi3⟩ := hp
        obtain ⟨hr, hl3, hl4, hd4, hkk⟩ := fin none W3 hk3
        exact ⟨_, _, hr, .inl ⟨rfl, ⟨hI.putObj _ hi3 (by omega) hl3 rfl, hl4, hd4⟩, ((hba.trans (bp _ _ hlt)).trans hb3).trans (bp _ _ (Array.getElem?_eq_some_iff.1 hl3).1)⟩⟩
      | ret =>
        obtain ⟨hk3, hi3⟩ := hp
        obtain ⟨hr, hl3, hl4, hd4, hkk⟩ := fin (some .ret) W3 hk3
        exact ⟨_, _, hr, .inr ⟨rfl, ⟨.ret, (hIx _).putObj _ hi3 (by omega) hl3 rfl, hl4, hd4⟩, hkk⟩⟩
      | exit id =>
        obtain ⟨hk3, hi3⟩ := hp
        obtain ⟨hr, hl3, hl4, hd4, hkk⟩ := fin (some (.exit id)) W3 hk3
        exact ⟨_, _, hr, .inr ⟨rfl, ⟨.exit id, (hIx _).putObj _ hi3 (by omega) hl3 rfl, hl4, hd4⟩, hkk⟩⟩
      | goto t =>
        obtain ⟨hk3, hi3⟩ := hp
        obtain ⟨hr, hl3, hl4, hd4, hkk⟩ := fin (some (.goto t)) W3 hk3
        exact ⟨_, _, hr, .inr ⟨rfl, ⟨.goto t, (hIx _).putObj _ hi3 (by omega) hl3 rfl, hl4, hd4⟩, hkk⟩⟩
      | panic ch => exact hp.elim
      | outgrown => exact hp.elim
    · rintro e W2 ⟨⟨v, rfl⟩, (⟨xs, hS, hi, hl, hd⟩ | ⟨pre, hSp, c, hi, hl, hd⟩)⟩
      · exact ⟨none, _, by have := run_endLoop (P := Tryz.prog) hl (by rw [hR]; simp); rw [hR] at this; exact this, hdone _ xs _ (Nat.le_refl _) hS (hI.putObj _ hi (by omega) hl rfl) ((World.putObj_heap_other (by omega)).trans hd)⟩
      · exact ⟨some c, _, by have := run_endLoop (P := Tryz.prog) hl (by rw [hR]; simp); rw [hR] at this; exact this, hstop _ c pre _ (Nat.le_refl _) hSp ((hIx c).putObj _ hi (by omega) hl rfl) ((World.putObj_heap_other (by omega)).trans hd)⟩
end Go.Proofs.YtdeokdlkjgpffaaGreatDoor
