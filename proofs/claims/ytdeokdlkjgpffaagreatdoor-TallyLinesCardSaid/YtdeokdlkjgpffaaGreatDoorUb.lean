/- a loop over the re-counts of a shepherd, whose body may write the caller's own boxes -/
import Derived.Test.YtdeokdlkjgpffaaGreatDoorTo
namespace Go.Proofs.YtdeokdlkjgpffaaGreatDoor
set_option linter.all false
open Go.RowKit Go.Shelf
attribute [local go_sem] Oper.semAt_some

/-- what lies below n0, what lies at n1 and beyond, and the box bs lie as they lay -/
def KpB (n0 n1 bs : Nat) (W W' : World) : Prop := Below n0 W W' ∧ Far n1 W W' ∧ (∀ v, W.cell? ⟨bs, 0, none⟩ = some v → W'.cell? ⟨bs, 0, none⟩ = some v)
theorem KpB.trans {n0 n1 bs : Nat} {A B C : World} (h : KpB n0 n1 bs A B) (k : KpB n0 n1 bs B C) : KpB n0 n1 bs A C := ⟨h.1.trans k.1, h.2.1.trans k.2.1, fun v hv => k.2.2 v (h.2.2 v hv)⟩
theorem KpB.of_kept {n0 n1 bs : Nat} {W W' : World} (h : Kept W W') (hn : n0 ≤ W.heap.size) : KpB n0 n1 bs W W' := ⟨h.below.mono hn, Far.of_kept h, fun v hv => (h.cells _ _ (cell_lt hv)).trans hv⟩
theorem KpB.setCell {n0 n1 bs b j : Nat} (W : World) (u : Value) (h0 : n0 ≤ b) (h1 : b < n1) (hb : b ≠ bs) : KpB n0 n1 bs W (W.setCell ⟨b, j, none⟩ u) :=
  ⟨(Below.refl n0 W).setCell (p := ⟨b, j, none⟩) h0 u, Far.setCell W u h1, fun v hv => by rw [World.cell?_setCell_far _ _ _ _ (by simpa using hb)]; exact hv⟩

/-- an iterator's contract, whose own loops may lie at n1 and beyond -/
def SeqAtB {α : Type} (n gf : Nat) (lb : Array Value) (encs : α → Array Value) (n0 n1 bs : Nat) (S Sp : List α → Prop) (N : Nat) (w : World) : Prop :=
  ∀ (l : Nat) (J Jx : List α → World → Prop) (W : World), Below w.heap.size w W → n1 ≤ W.heap.size → OwnFrom W.heap.size J → OwnFrom W.heap.size Jx →
  (∀ pre x W1, J pre W1 → pre.length < N → YieldAt Fence.wide (n - 1) Tryz.prog l (encs x) W1 fun e W' =>
    (e = .returned (.bool true) ∧ J (pre ++ [x]) W' ∧ KpB n0 n1 bs W1 W') ∨ (e = .returned (.bool false) ∧ Jx (pre ++ [x]) W' ∧ KeepsFrom n1 W1 W')) →
  J [] W →
  CallsIn Fence.wide n Tryz.prog gf (#[.func (.yield l) #[] #[]] ++ lb) W fun e W' => (∃ v, e = .returned v) ∧ ((∃ xs, S xs ∧ J xs W') ∨ (∃ pre, Sp pre ∧ Jx pre W'))

/-- **a loop over such an iterator** -/
theorem rangeOverB {α : Type} {n : Nat} {g : Operand} {ps : Array Tmp} {assign body : Code} {Q : Exit → Act → World → Prop} {a : Act} {w : World} (h1 : 1 ≤ n)
    {gf : Nat} {lb : Array Value} (hg : a.eval g = .func (.func gf) #[] lb) (eg : ∀ args w, (callFunc gf args).run Tryz.prog w = .ok (.enter gf args) w)
    {encs : α → Array Value} {n0 bs : Nat} {S Sp : List α → Prop} {N : Nat} (hn0 : n0 ≤ w.heap.size) (hseq : SeqAtB (n - 1) gf lb encs n0 (w.heap.size + 2) bs S Sp N w) (hps : ∀ x, (encs x).size = ps.size)
    (I : List α → World → Prop) (Ix : Code → List α → World → Prop) (hI : OwnFrom w.heap.size I) (hIx : ∀ c, OwnFrom w.heap.size (Ix c)) (h0 : I [] w) (Ax : α → Act → World → Prop) (hAx : ∀ x a', OwnFrom w.heap.size (fun (_ : Unit) W => Ax x a' W))
    (hassign : ∀ (l : Nat) (pre : List α) (x : α) (W : World) (K : Act → World → Prop), I pre W → (∀ a' W', KeepsFrom w.heap.size W W' → KpB n0 (w.heap.size + 2) bs W W' → I pre W' → Ax x a' W' → K a' W') →
      assign.wpIn (Fence.wide.inRound l) (n - 1 - 1) Tryz.prog (Exit.then K (fun _ _ _ => False)) { tmps := (ps.zip (encs x)).foldl (fun t (p, v) => t.setIfInBounds p v) a.tmps, defers := [] } W)
    (hbody : ∀ (l : Nat) (pre : List α) (x : α) (a' : Act) (W : World), I pre W → Ax x a' W → pre.length < N → body.wpIn (Fence.wide.inRound l) (n - 1 - 1) Tryz.prog (ownPostG w.heap.size (KpB n0 (w.heap.size + 2) bs) I Ix (pre ++ [x]) W) a' W)
    (hdone : ∀ (D : Nat) (xs : List α) (W : World), w.heap.size ≤ D → S xs → I xs W → W.heap[D]? = some (.deferred (some [])) → Q .normal { a with defers := { target := .collected D, args := #[] } :: a.defers } W)
    (hstop : ∀ (D : Nat) (c : Code) (pre : List α) (W : World), w.heap.size ≤ D → Sp pre → Ix c pre W → W.heap[D]? = some (.deferred (some [])) → c.wpIn Fence.wide n Tryz.prog Q { a with defers := { target := .collected D, args := #[] } :: a.defers } W) :
    (Code.rangeFunc g ps assign body).wpIn Fence.wide n Tryz.prog Q a w := by
  refine wpIn_rangeFunc ?_
  intro fn hfn
  have hro : Fence.wide.round = none := rfl
  rw [hro]
  obtain ⟨R, hR⟩ : ∃ R : LoopState → Option Code → Loop, R = fun st pe => { state := st, pending := pe, fn, tmps := a.tmps, params := ps, assign, body, defers := w.heap.size } := ⟨_, rfl⟩
  obtain ⟨L, hL⟩ : ∃ L, L = w.heap.size + 1 := ⟨_, rfl⟩
  obtain ⟨V, hV⟩ : ∃ V, (w.alloc (.deferred (some []))).alloc (.loop (R .ready none)) = V := ⟨_, rfl⟩
  have zV : V.heap.size = w.heap.size + 2 := by rw [← hV]; simp
  have lV : V.heap[L]? = some (.loop (R .ready none)) := by
    have := heap_alloc_new (w.alloc (.deferred (some []))) (.loop (R .ready none))
    rw [World.size_alloc, ← hL, hV] at this
    exact this
  have dV : V.heap[w.heap.size]? = some (.deferred (some [])) := by
    rw [← hV]; exact (Below.heap_alloc _ _ _ (by simp)).trans (heap_alloc_new w _)
  have iV : I [] V := by rw [← hV]; exact hI.alloc _ (hI.alloc _ h0)
  have bV : Below w.heap.size w V := by rw [← hV]; exact ((Below.refl _ w).alloc (Nat.le_refl _) _).alloc (by simp) _
  refine ⟨L, [{ target := .collected w.heap.size, args := #[] }], V, { target := .fn (.func gf) lb, args := #[.func (.yield L) #[] #[]] }, V, gf, #[.func (.yield L) #[] #[]] ++ lb, V, ?_, ?_, ?_, ?_, fun _ => h1, ?_⟩
  · rw [← hV, hR, hL]; exact run_enterLoop_outer _ _ _ _ _
  · simp only [resolve, hg]
    simp [go_sem]
  · intro f' hf'; trivial
  · simp [invoke, go_sem, eg]
  · refine (hseq L (fun pre W => I pre W ∧ W.heap[L]? = some (.loop (R .ready none)) ∧ W.heap[w.heap.size]? = some (.deferred (some [])))
      (fun pre W => ∃ c, Ix c pre W ∧ W.heap[L]? = some (.loop (R .done (some c))) ∧ W.heap[w.heap.size]? = some (.deferred (some [])))
      V bV (by omega) (ownFrom_loop hI (by omega) (by omega) (by omega))
      (fun s X Y row hs hgr hr => by
        obtain ⟨c, hc⟩ := hs
        exact ⟨c, ownFrom_loop (o := .loop (R .done (some c))) (hIx c) (B := V.heap.size) (by omega) (by omega) (by omega) s X Y row hc hgr hr⟩)
      ?_ ⟨iV, lV, dV⟩).mono ?_
    · rintro pre x W ⟨hi, hl, hd⟩ hlen
      have hy := run_yield (P := Tryz.prog) (args := encs x) hl (by rw [hR]; exact hps x)
      rw [hR] at hy
      refine ⟨fn, _, assign, body, hy, roundIn_of_wpIn hfn (hassign _ pre x W _ hi ?_)⟩
      clear hy
      intro a' Wa hka hba hia hax
      have hla := hka.same _ _ (by omega) hl rfl
      have hda := hka.same _ _ (Nat.le_refl _) hd rfl
      have hlt : L < Wa.heap.size := (Array.getElem?_eq_some_iff.1 hla).1
      refine ⟨_, run_beginRound hla (by rw [hR]), ?_⟩
      have hl2 : (Wa.putObj L (.loop { R .ready none with state := .busy })).heap[L]? = some (.loop { R .ready none with state := .busy }) := World.putObj_heap_same hlt
      have hd2 : (Wa.putObj L (.loop { R .ready none with state := .busy })).heap[w.heap.size]? = some (.deferred (some [])) := (World.putObj_heap_other (by omega)).trans hda
      have bp : ∀ (X : World) (o : Obj) (r : Loop), X.heap[L]? = some (.loop r) → KpB n0 (w.heap.size + 2) bs X (X.putObj L o) := fun X o r hX => ⟨(Below.refl n0 X).grown (grownBy_putObj' X L o) (by have := (Array.getElem?_eq_some_iff.1 hX).1; omega) (fun k e => by cases e; omega), Far.put X o (by omega), fun v hv => cell_kept hv (grownBy_putObj' X L o) (fun r e => by cases e; exact ⟨_, hX, rfl⟩)⟩
      have kn1 : KeepsFrom (w.heap.size + 2) W Wa := keepsFrom_le hka (by omega)
      refine wpIn_mono (hbody _ pre x a' _ (hI.putObj _ hia (by omega) hla rfl) ((hAx x a').putObj (s := ()) _ hax (by omega) hla rfl) hlen) ?_
      have fin : ∀ (jump : Option Code) (W3 : World), KeepsFrom w.heap.size (Wa.putObj L (.loop { R .ready none with state := .busy })) W3 →
          (Instr.endRound L jump).run Tryz.prog W3 = .ok (.bool jump.isNone) (W3.putObj L (.loop (R (if jump.isNone then .ready else .done) jump))) ∧ W3.heap[L]? = some (.loop { R .ready none with state := .busy }) ∧
          (W3.putObj L (.loop (R (if jump.isNone then .ready else .done) jump))).heap[L]? = some (.loop (R (if jump.isNone then .ready else .done) jump)) ∧
          (W3.putObj L (.loop (R (if jump.isNone then .ready else .done) jump))).heap[w.heap.size]? = some (.deferred (some [])) ∧
          KeepsFrom (w.heap.size + 2) W (W3.putObj L (.loop (R (if jump.isNone then .ready else .done) jump))) := fun jump W3 hk3 => by
        have hl3 := hk3.same _ _ (by omega) hl2 rfl
        have e := run_endRound (P := Tryz.prog) jump hl3
        rw [hR] at e ⊢
        exact ⟨e, by rw [hR] at hl3; exact hl3, World.putObj_heap_same (Array.getElem?_eq_some_iff.1 hl3).1, (World.putObj_heap_other (by omega)).trans (hk3.same _ _ (Nat.le_refl _) hd2 rfl),
          ((kn1.trans (keepsFrom_put _ (by omega))).trans (keepsFrom_le hk3 (by omega))).trans (keepsFrom_put _ (by omega))⟩
      rintro e a3 W3 hp
      cases e with
      | normal =>
        obtain ⟨hk3, hb3, hi3⟩ := hp
        obtain ⟨hr, hl3, hl4, hd4, hkk⟩ := fin none W3 hk3
        exact ⟨_, _, hr, .inl ⟨rfl, ⟨hI.putObj _ hi3 (by omega) hl3 rfl, hl4, hd4⟩, ((hba.trans (bp _ _ _ hla)).trans hb3).trans (bp _ _ _ hl3)⟩⟩
      | ret =>
        obtain ⟨hk3, hi3⟩ := hp
        obtain ⟨hr, hl3, hl4, hd4, hkk⟩ := fin (some .ret) W3 hk3
        exact ⟨_, _, hr, .inr ⟨rfl, ⟨.ret, (hIx _).putObj _ hi3 (by omega) hl3 rfl, hl4, hd4⟩, hkk⟩⟩
      | exit id =>
        obtain ⟨hk3, hi3⟩ := hp
        obtain ⟨hr, hl3, hl4, hd4, hkk⟩ := fin (some (.exit id)) W3 hk3
        exact ⟨_, _, hr, .inr ⟨rfl, ⟨.exit id, (hIx _).putObj _ hi3 (by omega) hl3 rfl, hl4, hd4⟩, hkk⟩⟩
      | goto t =>
        obtain ⟨hk3, hi3⟩ := hp
        obtain ⟨hr, hl3, hl4, hd4, hkk⟩ := fin (some (.goto t)) W3 hk3
        exact ⟨_, _, hr, .inr ⟨rfl, ⟨.goto t, (hIx _).putObj _ hi3 (by omega) hl3 rfl, hl4, hd4⟩, hkk⟩⟩
      | panic ch => exact hp.elim
      | outgrown => exact hp.elim
    · rintro e W2 ⟨⟨v, rfl⟩, (⟨xs, hS, hi, hl, hd⟩ | ⟨pre, hSp, c, hi, hl, hd⟩)⟩
      · exact ⟨none, _, by have := run_endLoop (P := Tryz.prog) hl (by rw [hR]; simp); rw [hR] at this; exact this, hdone _ xs _ (Nat.le_refl _) hS (hI.putObj _ hi (by omega) hl rfl) ((World.putObj_heap_other (by omega)).trans hd)⟩
      · exact ⟨some c, _, by have := run_endLoop (P := Tryz.prog) hl (by rw [hR]; simp); rw [hR] at this; exact this, hstop _ c pre _ (Nat.le_refl _) hSp ((hIx c).putObj _ hi (by omega) hl rfl) ((World.putObj_heap_other (by omega)).trans hd)⟩
/-- countingOf's own variables between two rounds -/
def OIB (sh : Int) (J : List Rcn → World → Prop) (w0 : World) (by' l bs : Nat) (pre : List Rcn) (W : World) : Prop :=
  J (pre.filter (fun x => decide (x.sh = sh))) W ∧ RowC W by' [.func (.yield l) #[] #[]] ∧ Below w0.heap.size w0 W ∧ W.cell? ⟨bs, 0, none⟩ = some (.int .i64 sh)
def OAB (l bl bk bs by' : Nat) (A : Option Addr) (nn c : Nat) (known : Int) (b1 b2 : Nat) (x : Rcn) (a' : Act) (W : World) : Prop :=
  ∃ Bx, by' < Bx ∧ RowC W Bx (rcCells x) ∧ a' = { tmps := #[.func (.yield l) #[] #[], .pointer (some ⟨bl, 0, none⟩), .pointer (some ⟨bk, 0, none⟩), .pointer (some ⟨bs, 0, none⟩), .pointer (some ⟨by', 0, none⟩), .pointer (some ⟨Bx, 0, none⟩), .slice A nn c, .int .i64 known, .func (.func 75) #[] #[.pointer (some ⟨b1, 0, none⟩), .pointer (some ⟨b2, 0, none⟩)], rcV x, undef, undef, undef, undef, undef, undef, undef, undef, undef, undef], defers := [] }
theorem OAB.own (l bl bk bs by' : Nat) (A : Option Addr) (nn c : Nat) (known : Int) (b1 b2 : Nat) (x : Rcn) (a' : Act) (B : Nat) : OwnFrom B (fun (_ : Unit) W => OAB l bl bk bs by' A nn c known b1 b2 x a' W) := by
  rintro s W W' row ⟨Bx, h1, h2, h3⟩ hg hr
  exact ⟨Bx, h1, RowC.own B Bx (fun (_ : Unit) => rcCells x) s W W' row h2 hg hr, h3⟩

set_option maxRecDepth 100000 in
set_option maxHeartbeats 2000000 in
theorem countOf_atB (n : Nat) (hn : 4 ≤ n) (bl bk bs : Nat) (A : Option Addr) (nn c : Nat) (xs : List Rcn) (known sh : Int) (w0 w : World) (hl : w.cell? ⟨bl, 0, none⟩ = some (.slice A nn c)) (hk : w.cell? ⟨bk, 0, none⟩ = some (.int .i64 known)) (hs : w.cell? ⟨bs, 0, none⟩ = some (.int .i64 sh)) (hT : RcA w0 A nn c xs) (hlt : nn ≤ 1000000) (hw : Kept w0 w) (n1 : Nat) (hn1 : w.heap.size ≤ n1) :
    SeqAtB n 64 #[.pointer (some ⟨bl, 0, none⟩), .pointer (some ⟨bk, 0, none⟩), .pointer (some ⟨bs, 0, none⟩)] (fun x : Rcn => #[rcV x]) w0.heap.size n1 bs (fun ys => ys = ofS xs known sh) (fun pre => pre <+: ofS xs known sh) (cntS xs known).length w := by
  intro l J Jx W hW hn1W hJ hJx hY h0
  show CallsIn Fence.wide n Tryz.prog 64 #[.func (.yield l) #[] #[], .pointer (some ⟨bl, 0, none⟩), .pointer (some ⟨bk, 0, none⟩), .pointer (some ⟨bs, 0, none⟩)] W _
  have hkW : Kept w0 W := hw.trans hW
  have hkwW : Kept w W := hW
  have HT := Lib.hid hT
  have HY := Lib.hid hY
  have HJ := Lib.hid hJ
  have HJx := Lib.hid hJx
  have Hs := Lib.hid hs
  have F1 := Lib.hid ((hkwW.cells _ _ (cell_lt hl)).trans hl)
  have F2 := Lib.hid ((hkwW.cells _ _ (cell_lt hk)).trans hk)
  have hbl := cell_lt hl
  have hbk := cell_lt hk
  have hbs := cell_lt hs
  have hz := hkwW.size
  have hz0 := hw.size
  have F3 := Lib.hid ((hkwW.cells _ _ hbs).trans hs)
  obtain ⟨W1, hW1⟩ : ∃ W1 : World, W1 = W.alloc (.cells #[.func (.yield l) #[] #[]] 62) := ⟨_, rfl⟩
  have hk1 : Kept W W1 := by rw [hW1]; exact (Kept.refl _).alloc _
  have g1 : W1.cell? ⟨bl, 0, none⟩ = some (.slice A nn c) := ((hkwW.trans hk1).cells _ _ hbl).trans hl
  have g2 : W1.cell? ⟨bk, 0, none⟩ = some (.int .i64 known) := ((hkwW.trans hk1).cells _ _ hbk).trans hk
  have z1 : W1.heap.size = W.heap.size + 1 := by rw [hW1]; simp
  obtain ⟨W2, hW2⟩ : ∃ W2 : World, W2 = (W1.alloc (.cells #[.slice A nn c] 49)).alloc (.cells #[.int .i64 known] 3) := ⟨_, rfl⟩
  have hk2 : Kept W1 W2 := by rw [hW2]; exact ((Kept.refl _).alloc _).alloc _
  have z2 : W2.heap.size = W.heap.size + 1 + 1 + 1 := by rw [hW2]; simp [z1]
  have r0 : RowC W1 W.heap.size [.func (.yield l) #[] #[]] := by rw [hW1]; exact RowC.new W _ 62
  have y1 : W2.cell? ⟨W1.heap.size, 0, none⟩ = some (.slice A nn c) := by rw [hW2]; exact cellOldK (cellNew rfl rfl)
  have y2 : W2.cell? ⟨W1.heap.size + 1, 0, none⟩ = some (.int .i64 known) := by rw [hW2]; exact cellNew (by simp) rfl
  have hkW2 : Kept w0 W2 := (hkW.trans hk1).trans hk2
  have I0 : OIB sh J w0 W.heap.size l bs [] W2 := ⟨HJ.out _ _ _ none h0 (kept_grown (hk1.trans hk2)) (fun r e => by cases e), r0.kept hk2, hkW2.below, (((hkwW.trans hk1).trans hk2).cells _ _ hbs).trans Hs.out⟩
  have hI : OwnFrom W2.heap.size (OIB sh J w0 W.heap.size l bs) := OwnFrom.and (fun s X Y row h hg hr => HJ.out _ X Y row h hg (fun r e => ⟨by have := (hr r e).1; omega, (hr r e).2⟩)) (OwnFrom.and (RowC.own _ _ (fun _ => [.func (.yield l) #[] #[]])) (OwnFrom.and (ownFrom_below (Nat.le_refl _) hkW2.size) (Own.from (fun s X Y row h hg hr => cell_kept h hg hr) _)))
  have HI := Lib.hid hI
  have Y1 := Lib.hid y1
  have Y2 := Lib.hid y2
  have HW1 := Lib.hid hW1
  have HW2 := Lib.hid hW2
  have HkW2 := Lib.hid hkW2
  have HT2 := Lib.hid (HT.out.kept hkW2)
  have Z1 := Lib.hid z1
  have Z2 := Lib.hid z2
  have HI0 := Lib.hid I0
  clear hT hY hJ hJx hs hl hk hW1 hW2 hkW2 z1 z2 y1 y2 r0 hI I0 hk1 hk2
  refine callsIn_of_wp_marks Tryz.func64 rfl trivial ?_ rfl
  simp only [Tryz.ntmps64, List.size_toArray, List.length_cons, List.length_nil, Nat.reduceAdd, Nat.reduceSub, Array.replicate_succ, Array.replicate_zero, List.push_toArray, List.append_toArray, List.nil_append, List.cons_append]
  have f1 : W.cell? ⟨bl, 0, none⟩ = some (.slice A nn c) := F1.out
  have f2 : W.cell? ⟨bk, 0, none⟩ = some (.int .i64 known) := F2.out
  have hblW : bl < W.heap.size := by omega
  have hbkW : bk < W.heap.size := by omega
  gi_wp2_with fail
  rw [← HW1.out]
  refine ⟨trivial, fun _ => by omega, ?_⟩
  refine (callsIn_wide.2 (counting_any A nn c known W1)).mono ?_
  rintro e w2 ⟨rfl, rfl⟩
  gi_wp2_with fail
  rw [← HW2.out]
  refine wpIn_rangeFunc_ownH rfl (by omega) (gf := 75) (lb := #[.pointer (some ⟨W1.heap.size, 0, none⟩), .pointer (some ⟨W1.heap.size + 1, 0, none⟩)]) rfl trivial (enters_of Tryz.func75 (by kernel_rfl) rfl)
    (counting_stops (n - 1) (by omega) _ _ A nn c xs known w0 HT.out hlt W2 HkW2.out Y1.out Y2.out) KpC.trans (KpC.put HkW2.out.size) (Below.refl _ _) (fun _ => rfl)
    (OIB sh J w0 W.heap.size l bs) (fun c pre V => Jx (pre.filter (fun x => decide (x.sh = sh))) V ∧ c = .ret) HI.out (fun c => OwnFrom.and (fun s X Y row h hg hr => HJx.out _ X Y row h hg (fun r e => ⟨by have := (hr r e).1; have := Z2.out; omega, (hr r e).2⟩)) (ownFrom_pure _ _)) HI0.out (OAB l bl bk bs W.heap.size A nn c known W1.heap.size (W1.heap.size + 1)) (fun x a' => OAB.own _ _ _ _ _ _ _ _ _ _ _ _ _ _) ?assign ?body ?done ?stop
  case assign =>
    intro l2 pre x V K hi hK
    dsimp only [rcV]
    gi_wp2
    have hst : W.heap.size < V.heap.size := cell_lt (hi.2.1 0 _ rfl).1
    exact hK _ _ ((KeepsOthers.alloc _ _).from _) (KpC.of_kept ((Kept.refl V).alloc _) hi.2.2.1.size) (OwnFrom.alloc (B := W2.heap.size) HI.out _ hi) ⟨V.heap.size, hst, RowC.new V (rcCells x) 25, rfl⟩
  case body =>
    rintro l2 pre x a' V hl2 ⟨r, hr⟩ hi ⟨Bx, hBx, bX, rfl⟩ hlt2
    have x0 := (bX 0 _ rfl).1
    have x1 := (bX 1 _ rfl).1
    have x2 := (bX 2 _ rfl).1
    have x3 := (bX 3 _ rfl).1
    have x4 := (bX 4 _ rfl).1
    have x5 := (bX 5 _ rfl).1
    have hkV : Kept w0 V := hi.2.2.1
    have sV := hi.2.2.2
    have yb := (hi.2.1 0 _ rfl).1
    have HI3 := Lib.hid hi
    have BX := Lib.hid bX
    clear bX
    by_cases hsh : (x.sh == sh) = true
    · obtain ⟨fn, tmps, assign, body, hy, hR⟩ := HY.out _ x V hi.1 (Nat.lt_of_le_of_lt (List.length_filter_le _ _) hlt2)
      have HP := Lib.hid (filter_snoc_yes (p := fun x : Rcn => decide (x.sh = sh)) (xs := pre) (x := x) (by simpa using hsh))
      simp only [rcV] at hy
      gi_wp2
      refine ⟨fun _ => by omega, (roundInR l2 (yieldRound hR)).mono ?_⟩
      rintro e V3 (⟨rfl, hJ3, hk3⟩ | ⟨rfl, hJx3, hk3⟩)
      · gi_wp2
        exact ⟨keepsFrom_le hk3.2.1.keeps (by have := Z2.out; omega), ⟨hk3.1, fun v hv => hk3.2.1.cell (by have := Z1.out; omega) hv⟩, by rw [HP.out]; exact hJ3, hk3.2.1.row hn1W HI3.out.2.1, HI3.out.2.2.1.trans hk3.1, hk3.2.2 _ HI3.out.2.2.2⟩
      · gi_wp2
        exact ⟨keepsFrom_le hk3 (by have := Z2.out; omega), by rw [HP.out]; exact hJx3, rfl⟩
    · have HP := Lib.hid (filter_snoc_no (p := fun x : Rcn => decide (x.sh = sh)) (xs := pre) (x := x) (by simpa using hsh))
      have hsh' : (x.sh == sh) = false := by simpa using hsh
      clear hsh
      gi_wp2
      refine ⟨fun _ h => (by cases h), ?_⟩
      gi_wp2
      exact ⟨KeepsFrom.refl _ _, KpC.of_kept (Kept.refl _) hkV.size, by rw [HP.out]; exact HI3.out.1, HI3.out.2.1, HI3.out.2.2.1, HI3.out.2.2.2⟩
  case done =>
    rintro D ys V hD rfl hi hK
    gi_wp2
    refine ⟨by simp, .inl ⟨_, _, rfl, run_takeDeferred hK, ?_⟩⟩
    exact ⟨_, results_none rfl _ _ _, ⟨_, rfl⟩, .inl ⟨_, rfl, HJ.out.putObj _ hi.1 (by have := Z2.out; omega) hK rfl⟩⟩
  case stop =>
    rintro D c pre V hD hp ⟨hJ3, rfl⟩ hK
    gi_wp2
    refine ⟨by simp, .inl ⟨_, _, rfl, run_takeDeferred hK, ?_⟩⟩
    exact ⟨_, results_none rfl _ _ _, ⟨_, rfl⟩, .inr ⟨_, List.IsPrefix.filter _ hp, HJx.out.putObj _ hJ3 (by have := Z2.out; omega) hK rfl⟩⟩
end Go.Proofs.YtdeokdlkjgpffaaGreatDoor
