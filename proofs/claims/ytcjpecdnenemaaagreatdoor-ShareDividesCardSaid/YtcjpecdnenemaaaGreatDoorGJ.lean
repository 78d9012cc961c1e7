/-
  greatest, over counting.
  inForce, Of, stintsOn.
  ratio: quotients of products that fit in one word; fitting.
  What is known of a record in force of a table that is right; Most.
-/
import Derived.Test.YtcjpecdnenemaaaGreatDoorGI
import Derived.Test.YtcjpecdnenemaaaGreatDoorGG
import Derived.RegionTactic
import Derived.ChangeAlike
namespace Go.Proofs.YtcjpecdnenemaaaGreatDoor
set_option linter.all false
open Go.RowKit Go.Shelf
attribute [local go_sem] Oper.semAt_some

def zeroE : Eqv := ⟨0, 0, 0, ⟨#[]⟩, 0, 0, 0⟩
def gst (sort : ByteArray) (day : Int) (acc : Option Eqv) (x : Eqv) : Option Eqv :=
  if fitB sort day x = true then (match acc with | none => some x | some b => if 0 < cmpE x b then some x else some b) else acc
/-- the greatest of the records that fit -/
def bestS (sort : ByteArray) (day : Int) (l : List Eqv) : Option Eqv := l.foldl (gst sort day) none
theorem bestS_snoc (sort : ByteArray) (day : Int) (l : List Eqv) (x : Eqv) : bestS sort day (l ++ [x]) = gst sort day (bestS sort day l) x := by simp [bestS]
/-- the equivalent in force -/
def inForceS (xs : List Eqv) (sort : ByteArray) (day known : Int) : Option Eqv := bestS sort day (cntS xs known)

/-- block b holds the values vs, in cells that may be written -/
def RowC (W : World) (b : Nat) (vs : List Value) : Prop := ∀ j v, vs[j]? = some v → W.cell? ⟨b, j, none⟩ = some v ∧ W.frozen? ⟨b, j, none⟩ = false
theorem RowC.kept {W W' : World} {b : Nat} {vs : List Value} (h : RowC W b vs) (hk : Kept W W') : RowC W' b vs := fun j v hv => ⟨(hk.cells _ _ (cell_lt (h j v hv).1)).trans (h j v hv).1, (hk.frozens _ _ (cell_lt (h j v hv).1)).trans (h j v hv).2⟩
theorem RowC.new (W : World) (vs : List Value) (t : TypeId) : RowC (W.alloc (.cells vs.toArray t)) W.heap.size vs := fun j v hv =>
  ⟨by rw [cell_of_row _ _ _ _ _ _ (heap_alloc_new W _)]; simpa using hv, by unfold World.frozen?; rw [show (⟨W.heap.size, j, none⟩ : Addr).block = W.heap.size from rfl, heap_alloc_new W _]; simp⟩
theorem RowC.own (B : Nat) (b : Nat) {β : Type} (f : β → List Value) : OwnFrom B (fun (s : β) W => RowC W b (f s)) :=
  Own.from (I := fun (s : β) W => RowC W b (f s)) (fun s X Y row hs hg hr j v hv => ⟨cell_kept (hs j v hv).1 hg hr, (frozen_kept (hs j v hv).1 hg hr).trans (hs j v hv).2⟩) B
theorem RowC.far {W : World} {b b' j : Nat} {vs : List Value} (h : RowC W b vs) (hne : b ≠ b') (u : Value) : RowC (W.setCell ⟨b', j, none⟩ u) b vs := fun i v hv =>
  ⟨by rw [World.cell?_setCell_far _ _ _ _ (by simpa using Ne.symm hne)]; exact (h i v hv).1, by rw [World.frozen?_setCell]; exact (h i v hv).2⟩
theorem RowC.put {W : World} {b j : Nat} {vs : List Value} (h : RowC W b vs) (hj : j < vs.length) (u : Value) : RowC (W.setCell ⟨b, j, none⟩ u) b (vs.set j u) := by
  intro i v hv
  have hl : i < vs.length := by have := (List.getElem?_eq_some_iff.1 hv).1; simpa using this
  have hi := h i vs[i] (List.getElem?_eq_getElem hl)
  refine ⟨?_, by rw [World.frozen?_setCell]; exact hi.2⟩
  by_cases e : j = i
  · subst e
    rw [List.getElem?_set_self hj] at hv
    cases hv
    exact World.cell?_setCell_same' _ _ _ (by rw [hi.1]; rfl)
  · rw [List.getElem?_set_ne e] at hv
    exact (World.cell?_setCell_other (w := W) (a := ⟨b, j, none⟩) (b := ⟨b, i, none⟩) (v := u) (by simpa using e)).trans (h i v hv).1
def put7 (W : World) (b : Nat) (x : Eqv) : World := ((((((W.setCell ⟨b, 0, none⟩ (.int .i64 x.id)).setCell ⟨b, 1, none⟩ (.int .i64 x.frm)).setCell ⟨b, 2, none⟩ (.int .i64 x.kno)).setCell ⟨b, 3, none⟩ (.string x.sort)).setCell ⟨b, 4, none⟩ (.int .i64 x.num)).setCell ⟨b, 5, none⟩ (.int .i64 x.den)).setCell ⟨b, 6, none⟩ (.int .i64 x.off)
theorem put7_far {W : World} {b b' : Nat} {vs : List Value} (x : Eqv) (h : RowC W b' vs) (hne : b' ≠ b) : RowC (put7 W b x) b' vs :=
  ((((((h.far hne _).far hne _).far hne _).far hne _).far hne _).far hne _).far hne _
theorem put7_same {W : World} {b : Nat} {y : Eqv} (x : Eqv) (h : RowC W b (eqCells y)) : RowC (put7 W b x) b (eqCells x) :=
  ((((((h.put (j := 0) (by simp [eqCells]) _).put (j := 1) (by simp [eqCells]) _).put (j := 2) (by simp [eqCells]) _).put (j := 3) (by simp [eqCells]) _).put (j := 4) (by simp [eqCells]) _).put (j := 5) (by simp [eqCells]) _).put (j := 6) (by simp [eqCells]) _
theorem put7_below {n : Nat} {w W : World} {b : Nat} (x : Eqv) (h : Below n w W) (hb : n ≤ b) : Below n w (put7 W b x) :=
  ((((((h.setCell (p := ⟨b, 0, none⟩) hb _).setCell (p := ⟨b, 1, none⟩) hb _).setCell (p := ⟨b, 2, none⟩) hb _).setCell (p := ⟨b, 3, none⟩) hb _).setCell (p := ⟨b, 4, none⟩) hb _).setCell (p := ⟨b, 5, none⟩) hb _).setCell (p := ⟨b, 6, none⟩) hb _
theorem put7_others (W : World) (b : Nat) (x : Eqv) : KeepsOthers W (put7 W b x) :=
  ((((((KeepsOthers.setCell W ⟨b, 0, none⟩ _).trans (KeepsOthers.setCell _ ⟨b, 1, none⟩ _)).trans (KeepsOthers.setCell _ ⟨b, 2, none⟩ _)).trans (KeepsOthers.setCell _ ⟨b, 3, none⟩ _)).trans (KeepsOthers.setCell _ ⟨b, 4, none⟩ _)).trans (KeepsOthers.setCell _ ⟨b, 5, none⟩ _)).trans (KeepsOthers.setCell _ ⟨b, 6, none⟩ _)
theorem Kept.others {W W' : World} (h : Kept W W') : KeepsOthers W W' := ⟨h.size, fun k o hk _ => (h.block k (Array.getElem?_eq_some_iff.1 hk).1).trans hk⟩

theorem RowC.drew {W : World} {b : Nat} {vs : List Value} (h : RowC W b vs) : RowC W.drew b vs := fun j v hv => h j v hv
/-- what greatest's own variables hold between two rounds -/
def GI (bs bd : Nat) (sort : ByteArray) (day : Int) (w : World) (pre : List Eqv) (W : World) : Prop :=
  (RowC W w.heap.size [.func (.func 160) #[] #[.pointer (some ⟨bs, 0, none⟩), .pointer (some ⟨bd, 0, none⟩)]] ∧ RowC W (w.heap.size + 1) [.func (.func 162) #[] #[]] ∧ RowC W (w.heap.size + 1 + 1) (eqCells zeroE) ∧
    RowC W (w.heap.size + 1 + 1 + 1) (eqCells ((bestS sort day pre).getD zeroE)) ∧ RowC W (w.heap.size + 1 + 1 + 1 + 1) [.bool (bestS sort day pre).isSome]) ∧ Kept w W
theorem GI.own (bs bd : Nat) (sort : ByteArray) (day : Int) (w : World) (B : Nat) (hB : w.heap.size ≤ B) : OwnFrom B (GI bs bd sort day w) :=
  OwnFrom.and (OwnFrom.and (RowC.own _ _ _) (OwnFrom.and (RowC.own _ _ _) (OwnFrom.and (RowC.own _ _ _) (OwnFrom.and (RowC.own _ _ _) (RowC.own _ _ _))))) (ownFrom_below (Nat.le_refl _) hB)
/-- the frame of a round -/
def GA (bl bk bs bd : Nat) (w : World) (x : Eqv) (a' : Act) (W : World) : Prop :=
  ∃ Bx, w.heap.size + 1 + 1 + 1 + 1 < Bx ∧ RowC W Bx (eqCells x) ∧ a' = { tmps := #[.func (.func 165) #[] #[.pointer (some ⟨bl, 0, none⟩), .pointer (some ⟨bk, 0, none⟩)], .func (.func 160) #[] #[.pointer (some ⟨bs, 0, none⟩), .pointer (some ⟨bd, 0, none⟩)], .func (.func 162) #[] #[], undef, .pointer (some ⟨w.heap.size, 0, none⟩), .pointer (some ⟨w.heap.size + 1, 0, none⟩), .pointer (some ⟨w.heap.size + 1 + 1, 0, none⟩), .bool false, .pointer (some ⟨w.heap.size + 1 + 1 + 1, 0, none⟩), .pointer (some ⟨w.heap.size + 1 + 1 + 1 + 1, 0, none⟩), .pointer (some ⟨Bx, 0, none⟩), .func (.func 165) #[] #[.pointer (some ⟨bl, 0, none⟩), .pointer (some ⟨bk, 0, none⟩)], eqV x, undef, undef, undef, undef, undef, undef, undef, undef, undef, undef, undef, undef, undef, undef, undef, undef, undef], defers := [] }
theorem GA.own (bl bk bs bd : Nat) (w : World) (x : Eqv) (a' : Act) (B : Nat) : OwnFrom B (fun (_ : Unit) W => GA bl bk bs bd w x a' W) := by
  rintro s W W' row ⟨Bx, h1, h2, h3⟩ hg hr
  exact ⟨Bx, h1, RowC.own B Bx (fun (_ : Unit) => eqCells x) s W W' row h2 hg hr, h3⟩

theorem undef_bool {b : Bool} (h : some undef = some (Value.bool b)) : False := by simp [undef] at h
set_option maxRecDepth 100000 in
set_option maxHeartbeats 2000000 in
theorem greatest_any (bl bk bs bd : Nat) (A : Option Addr) (nn c : Nat) (xs : List Eqv) (known day : Int) (sort : ByteArray) (w : World) (hl : w.cell? ⟨bl, 0, none⟩ = some (.slice A nn c)) (hk : w.cell? ⟨bk, 0, none⟩ = some (.int .i64 known)) (hT : TabA w A nn c xs) (hlt : nn ≤ 1000000)
    (hs : w.cell? ⟨bs, 0, none⟩ = some (.string sort)) (hd : w.cell? ⟨bd, 0, none⟩ = some (.int .i64 day)) :
    Calls Tryz.prog 161 #[.func (.func 165) #[] #[.pointer (some ⟨bl, 0, none⟩), .pointer (some ⟨bk, 0, none⟩)], .func (.func 160) #[] #[.pointer (some ⟨bs, 0, none⟩), .pointer (some ⟨bd, 0, none⟩)], .func (.func 162) #[] #[]] w fun e w' =>
      e = .returned (.tuple #[eqV ((inForceS xs sort day known).getD zeroE), .bool (inForceS xs sort day known).isSome]) ∧ Kept w w' := by
  have Hl := Lib.hid hl
  have Hk := Lib.hid hk
  have HT := Lib.hid hT
  have Hs := Lib.hid hs
  have Hd := Lib.hid hd
  clear hl hk hT hs hd
  obtain ⟨W0, hW0⟩ : ∃ W0 : World, W0 = ((((w.alloc (.cells #[.func (.func 160) #[] #[.pointer (some ⟨bs, 0, none⟩), .pointer (some ⟨bd, 0, none⟩)]] 109)).alloc (.cells #[.func (.func 162) #[] #[]] 152)).alloc (boxX zeroE)).alloc (boxX zeroE)).alloc (.cells #[.bool false] 4) := ⟨_, rfl⟩
  have K0 : Kept w W0 := by rw [hW0]; exact (((((Kept.refl w).alloc _).alloc _).alloc _).alloc _).alloc _
  have Z0 : W0.heap.size = w.heap.size + 1 + 1 + 1 + 1 + 1 := by rw [hW0]; simp
  have GI0 : GI bs bd sort day w [] W0 := by
    refine ⟨⟨?_, ?_, ?_, ?_, ?_⟩, K0⟩
    · rw [hW0]; exact ((((RowC.new w _ 109).kept ((Kept.refl _).alloc _)).kept ((Kept.refl _).alloc _)).kept ((Kept.refl _).alloc _)).kept ((Kept.refl _).alloc _)
    · have := RowC.new (w.alloc (.cells #[.func (.func 160) #[] #[.pointer (some ⟨bs, 0, none⟩), .pointer (some ⟨bd, 0, none⟩)]] 109)) [.func (.func 162) #[] #[]] 152
      rw [World.size_alloc] at this
      rw [hW0]; exact ((this.kept ((Kept.refl _).alloc _)).kept ((Kept.refl _).alloc _)).kept ((Kept.refl _).alloc _)
    · have := RowC.new ((w.alloc (.cells #[.func (.func 160) #[] #[.pointer (some ⟨bs, 0, none⟩), .pointer (some ⟨bd, 0, none⟩)]] 109)).alloc (.cells #[.func (.func 162) #[] #[]] 152)) (eqCells zeroE) 37
      rw [World.size_alloc, World.size_alloc] at this
      rw [hW0]; exact (this.kept ((Kept.refl _).alloc _)).kept ((Kept.refl _).alloc _)
    · have := RowC.new (((w.alloc (.cells #[.func (.func 160) #[] #[.pointer (some ⟨bs, 0, none⟩), .pointer (some ⟨bd, 0, none⟩)]] 109)).alloc (.cells #[.func (.func 162) #[] #[]] 152)).alloc (boxX zeroE)) (eqCells zeroE) 37
      rw [World.size_alloc, World.size_alloc, World.size_alloc] at this
      rw [hW0]; exact this.kept ((Kept.refl _).alloc _)
    · have := RowC.new ((((w.alloc (.cells #[.func (.func 160) #[] #[.pointer (some ⟨bs, 0, none⟩), .pointer (some ⟨bd, 0, none⟩)]] 109)).alloc (.cells #[.func (.func 162) #[] #[]] 152)).alloc (boxX zeroE)).alloc (boxX zeroE)) [.bool false] 4
      rw [World.size_alloc, World.size_alloc, World.size_alloc, World.size_alloc] at this
      rw [hW0]; exact this
  refine (callsIn_wide (n := 3)).1 ?_
  refine callsIn_of_wp_marks Tryz.func161 rfl trivial ?_ rfl
  simp only [Tryz.ntmps161, List.size_toArray, List.length_cons, List.length_nil, Nat.reduceAdd, Nat.reduceSub, Array.replicate_succ, Array.replicate_zero, List.push_toArray, List.append_toArray, List.nil_append, List.cons_append]
  simp only [boxX, zeroE] at hW0
  have HW0 := Lib.hid hW0
  have HZ0 := Lib.hid Z0
  clear hW0 Z0
  gi_wp2
  rw [← HW0.out]
  refine wpIn_rangeFunc_ownH rfl (by omega) (gf := 165) (lb := #[.pointer (some ⟨bl, 0, none⟩), .pointer (some ⟨bk, 0, none⟩)]) rfl trivial (enters_of Tryz.func165 (by kernel_rfl) rfl)
    (counting_stops (3 - 1) (by omega) bl bk A nn c xs known w Hl.out Hk.out HT.out hlt W0 K0) KpB.trans (fun W l o o' h1 h2 h3 h4 => ⟨belowK_b (w := W0) K0.size W l o o' h1 h2 h3 h4, KeepsWalks.putObj _ h2 h4⟩) (Below.refl _ _) (fun _ => rfl)
    (GI bs bd sort day w) (fun _ _ _ => False) (GI.own _ _ _ _ _ _ K0.size) (fun _ _ _ _ _ hs _ _ => hs) GI0 (GA bl bk bs bd w) (fun x a' => GA.own _ _ _ _ _ _ _ _) ?assign ?body ?done ?stop
  case assign =>
    intro l pre x W K hi hK
    have hsz := hi.2.size
    have hst : w.heap.size + 1 + 1 + 1 + 1 < W.heap.size := cell_lt (hi.1.2.2.2.2 0 _ rfl).1
    dsimp only [eqV]
    gi_wp2
    exact hK _ _ ((KeepsOthers.alloc _ _).from _) ⟨(Below.refl _ W).alloc hsz _, KeepsWalks.alloc _ _⟩ (OwnFrom.alloc (GI.own _ _ _ _ _ _ (Nat.le_refl _)) _ hi) ⟨W.heap.size, hst, RowC.new W (eqCells x) 37, rfl⟩
  case body =>
    rintro l pre x a' W hl ⟨r, hr⟩ hi ⟨Bx, hBx, bX, rfl⟩ hlt
    have HI := Lib.hid hi
    have HBX := Lib.hid bX
    obtain ⟨⟨r1, r2, r3, r4, r5⟩, hkW⟩ := hi
    have hsz := hkW.size
    have p1 := (r1 0 _ rfl).1
    have p2 := (r2 0 _ rfl).1
    have hp1 := cell_lt p1
    have hp2 := cell_lt p2
    have x0 := (bX 0 _ rfl).1
    have x1 := (bX 1 _ rfl).1
    have x2 := (bX 2 _ rfl).1
    have x3 := (bX 3 _ rfl).1
    have x4 := (bX 4 _ rfl).1
    have x5 := (bX 5 _ rfl).1
    have x6 := (bX 6 _ rfl).1
    have hBxl := cell_lt x0
    have f0 := r5 0 _ rfl
    have hf0l := cell_lt f0.1
    have sW := (hkW.cells _ _ (cell_lt Hs.out)).trans Hs.out
    have dW := (hkW.cells _ _ (cell_lt Hd.out)).trans Hd.out
    have SW := Lib.hid sW
    have DW := Lib.hid dW
    clear sW dW bX r1 r2 r3
    by_cases hfit : fitB sort day x = true
    · have HF := Lib.hid hfit
      rcases hacc : bestS sort day pre with _ | b
      · have HG := Lib.hid (show bestS sort day (pre ++ [x]) = some x by rw [bestS_snoc]; unfold gst; rw [if_pos hfit, hacc])
        rw [hacc] at f0
        have g0 := f0.1
        have g1 := f0.2
        have b4 := r4
        rw [hacc] at b4
        have hb4 := cell_lt (b4 0 _ rfl).1
        have y0 := (b4 0 _ rfl).1
        have z0 := (b4 0 _ rfl).2
        have y1 := (b4 1 _ rfl).1
        have z1 := (b4 1 _ rfl).2
        have y2 := (b4 2 _ rfl).1
        have z2 := (b4 2 _ rfl).2
        have y3 := (b4 3 _ rfl).1
        have z3 := (b4 3 _ rfl).2
        have y4 := (b4 4 _ rfl).1
        have z4 := (b4 4 _ rfl).2
        have y5 := (b4 5 _ rfl).1
        have z5 := (b4 5 _ rfl).2
        have y6 := (b4 6 _ rfl).1
        have z6 := (b4 6 _ rfl).2
        clear hfit hacc r4 r5 f0 b4
        dsimp only [zeroE, Option.getD_none] at y0 y1 y2 y3 y4 y5 y6
        gi_wp2_with fail
        refine ⟨trivial, ?_⟩
        refine (CallsIn.inRound l (callsIn_wide.2 (fits_any bs bd sort day x W SW.out DW.out))).mono ?_
        rw [HF.out]
        rintro e w1 ⟨rfl, hk1⟩
        obtain ⟨hc1, hfz1, hz1⟩ := hk1.facts
        have hk := hk1
        gi_wp2
        refine ⟨fun _ h => (by cases h), ?_⟩
        gi_wp2
        exact ⟨((hk.others.trans (put7_others _ (w.heap.size + 1 + 1 + 1) x)).trans (KeepsOthers.setCell _ _ _)).from _,
          ⟨(put7_below (b := w.heap.size + 1 + 1 + 1) x (hk.below.mono hsz) (by omega)).setCell (p := ⟨w.heap.size + 1 + 1 + 1 + 1, 0, none⟩) (by simp; omega) _, ((hk.others.trans (put7_others _ (w.heap.size + 1 + 1 + 1) x)).trans (KeepsOthers.setCell _ _ _)).walks⟩,
          by
            obtain ⟨⟨r1, r2, r3, r4, r5⟩, hkW⟩ := HI.out
            refine ⟨⟨(put7_far x (r1.kept hk) (by omega)).far (by omega) _, (put7_far x (r2.kept hk) (by omega)).far (by omega) _, (put7_far x (r3.kept hk) (by omega)).far (by omega) _, ?_, ?_⟩, ?_⟩
            · rw [HG.out]; exact (put7_same x (r4.kept hk)).far (by omega) _
            · rw [HG.out]; exact (put7_far x (r5.kept hk) (by omega)).put (by simp) _
            · exact (put7_below (b := w.heap.size + 1 + 1 + 1) x (hkW.trans hk).below (by omega)).setCell (p := ⟨w.heap.size + 1 + 1 + 1 + 1, 0, none⟩) (by simp; omega) _⟩
      · rw [hacc] at f0
        have g0 := f0.1
        have g1 := f0.2
        have b4 := r4
        rw [hacc] at b4
        have hb4 := cell_lt (b4 0 _ rfl).1
        by_cases hcmp : 0 < cmpE x b
        · have HG := Lib.hid (show bestS sort day (pre ++ [x]) = some x by rw [bestS_snoc]; unfold gst; rw [if_pos hfit, hacc]; simp [hcmp])
          have y0 := (b4 0 _ rfl).1
          have z0 := (b4 0 _ rfl).2
          have y1 := (b4 1 _ rfl).1
          have z1 := (b4 1 _ rfl).2
          have y2 := (b4 2 _ rfl).1
          have z2 := (b4 2 _ rfl).2
          have y3 := (b4 3 _ rfl).1
          have z3 := (b4 3 _ rfl).2
          have y4 := (b4 4 _ rfl).1
          have z4 := (b4 4 _ rfl).2
          have y5 := (b4 5 _ rfl).1
          have z5 := (b4 5 _ rfl).2
          have y6 := (b4 6 _ rfl).1
          have z6 := (b4 6 _ rfl).2
          clear hfit hacc r4 r5 f0 b4
          dsimp only [Option.getD_some] at y0 y1 y2 y3 y4 y5 y6
          gi_wp2_with fail
          refine ⟨trivial, ?_⟩
          refine (CallsIn.inRound l (callsIn_wide.2 (fits_any bs bd sort day x W SW.out DW.out))).mono ?_
          rw [HF.out]
          rintro e w1 ⟨rfl, hk1⟩
          obtain ⟨hc1, hfz1, hz1⟩ := hk1.facts
          gi_wp2_with fail
          refine ⟨trivial, ?_⟩
          refine (CallsIn.inRound l (callsIn_wide.2 (cmpE_any x b w1))).mono ?_
          rintro e w2 ⟨rfl, hk2⟩
          have hk := hk1.trans hk2
          clear hc1 hfz1 hz1
          obtain ⟨hc2, hfz2, hz2⟩ := hk.facts
          gi_wp2
          exact ⟨((hk.others.trans (put7_others _ (w.heap.size + 1 + 1 + 1) x)).trans (KeepsOthers.setCell _ _ _)).from _,
            ⟨(put7_below (b := w.heap.size + 1 + 1 + 1) x (hk.below.mono hsz) (by omega)).setCell (p := ⟨w.heap.size + 1 + 1 + 1 + 1, 0, none⟩) (by simp; omega) _, ((hk.others.trans (put7_others _ (w.heap.size + 1 + 1 + 1) x)).trans (KeepsOthers.setCell _ _ _)).walks⟩,
            by
              obtain ⟨⟨r1, r2, r3, r4, r5⟩, hkW⟩ := HI.out
              refine ⟨⟨(put7_far x (r1.kept hk) (by omega)).far (by omega) _, (put7_far x (r2.kept hk) (by omega)).far (by omega) _, (put7_far x (r3.kept hk) (by omega)).far (by omega) _, ?_, ?_⟩, ?_⟩
              · rw [HG.out]; exact (put7_same x (r4.kept hk)).far (by omega) _
              · rw [HG.out]; exact (put7_far x (r5.kept hk) (by omega)).put (by simp) _
              · exact (put7_below (b := w.heap.size + 1 + 1 + 1) x (hkW.trans hk).below (by omega)).setCell (p := ⟨w.heap.size + 1 + 1 + 1 + 1, 0, none⟩) (by simp; omega) _⟩
        · have HG := Lib.hid (show bestS sort day (pre ++ [x]) = bestS sort day pre by rw [bestS_snoc]; unfold gst; rw [if_pos hfit, hacc]; simp [hcmp])
          have y0 := (b4 0 _ rfl).1
          have z0 := (b4 0 _ rfl).2
          have y1 := (b4 1 _ rfl).1
          have z1 := (b4 1 _ rfl).2
          have y2 := (b4 2 _ rfl).1
          have z2 := (b4 2 _ rfl).2
          have y3 := (b4 3 _ rfl).1
          have z3 := (b4 3 _ rfl).2
          have y4 := (b4 4 _ rfl).1
          have z4 := (b4 4 _ rfl).2
          have y5 := (b4 5 _ rfl).1
          have z5 := (b4 5 _ rfl).2
          have y6 := (b4 6 _ rfl).1
          have z6 := (b4 6 _ rfl).2
          clear hfit hacc r4 r5 f0 b4
          dsimp only [Option.getD_some] at y0 y1 y2 y3 y4 y5 y6
          gi_wp2_with fail
          refine ⟨trivial, ?_⟩
          refine (CallsIn.inRound l (callsIn_wide.2 (fits_any bs bd sort day x W SW.out DW.out))).mono ?_
          rw [HF.out]
          rintro e w1 ⟨rfl, hk1⟩
          obtain ⟨hc1, hfz1, hz1⟩ := hk1.facts
          gi_wp2_with fail
          refine ⟨trivial, ?_⟩
          refine (CallsIn.inRound l (callsIn_wide.2 (cmpE_any x b w1))).mono ?_
          rintro e w2 ⟨rfl, hk2⟩
          have hk := hk1.trans hk2
          clear hc1 hfz1 hz1
          obtain ⟨hc2, hfz2, hz2⟩ := hk.facts
          gi_wp2
          exact ⟨hk.others.from _, ⟨hk.below.mono hsz, hk.others.walks⟩, by
            obtain ⟨⟨r1, r2, r3, r4, r5⟩, hkW⟩ := HI.out
            refine ⟨⟨r1.kept hk, r2.kept hk, r3.kept hk, ?_, ?_⟩, hkW.trans hk⟩
            · rw [HG.out]; exact r4.kept hk
            · rw [HG.out]; exact r5.kept hk⟩
    · have hfit' : fitB sort day x = false := by simpa using hfit
      have hg : bestS sort day (pre ++ [x]) = bestS sort day pre := by rw [bestS_snoc]; unfold gst; rw [if_neg hfit]
      have HG := Lib.hid hg
      have HF := Lib.hid hfit'
      clear hfit hfit' hg f0 r4 r5
      gi_wp2_with fail
      refine ⟨trivial, ?_⟩
      refine (CallsIn.inRound l (callsIn_wide.2 (fits_any bs bd sort day x W SW.out DW.out))).mono ?_
      rw [HF.out]
      rintro e w1 ⟨rfl, hk1⟩
      obtain ⟨hc1, hfz1, hz1⟩ := hk1.facts
      have hk := hk1
      gi_wp2
      all_goals (try (exact (undef_bool (by assumption)).elim))
      refine ⟨fun _ h => (by cases h), ?_⟩
      gi_wp2
      exact ⟨hk.others.from _, ⟨hk.below.mono hsz, hk.others.walks⟩, by
        obtain ⟨⟨r1, r2, r3, r4, r5⟩, hkW⟩ := HI.out
        refine ⟨⟨r1.kept hk, r2.kept hk, r3.kept hk, ?_, ?_⟩, hkW.trans hk⟩
        · rw [HG.out]; exact r4.kept hk
        · rw [HG.out]; exact r5.kept hk⟩
  case done =>
    rintro D ys W hD rfl hi hK
    obtain ⟨⟨r1, r2, r3, r4, r5⟩, hkW⟩ := hi
    have hZ := HZ0.out
    have f0 := r5 0 _ rfl
    have g0 := f0.1
    have R3 := Lib.hid r3
    have hmx : Tryz.prog.follows .mixedOrders = true := by kernel_rfl
    have y0 := (r4 0 _ rfl).1
    have z0 := (r3 0 _ rfl).2
    have t0 := (r3 0 _ rfl).1
    have y1 := (r4 1 _ rfl).1
    have z1 := (r3 1 _ rfl).2
    have t1 := (r3 1 _ rfl).1
    have y2 := (r4 2 _ rfl).1
    have z2 := (r3 2 _ rfl).2
    have t2 := (r3 2 _ rfl).1
    have y3 := (r4 3 _ rfl).1
    have z3 := (r3 3 _ rfl).2
    have t3 := (r3 3 _ rfl).1
    have y4 := (r4 4 _ rfl).1
    have z4 := (r3 4 _ rfl).2
    have t4 := (r3 4 _ rfl).1
    have y5 := (r4 5 _ rfl).1
    have z5 := (r3 5 _ rfl).2
    have t5 := (r3 5 _ rfl).1
    have y6 := (r4 6 _ rfl).1
    have z6 := (r3 6 _ rfl).2
    have t6 := (r3 6 _ rfl).1
    dsimp only [zeroE] at t0 t1 t2 t3 t4 t5 t6
    change Hid (W0.heap.size = w.heap.size + 1 + 1 + 1 + 1 + 1) at HZ0
    obtain ⟨m, hm⟩ : ∃ m, m = inForceS xs sort day known := ⟨_, rfl⟩
    have hm' : bestS sort day (cntS xs known) = m := by rw [hm]; rfl
    have HM := Lib.hid hm
    rw [hm'] at y0 y1 y2 y3 y4 y5 y6 g0
    clear r1 r2 r3 r4 r5 f0 hm hm' hZ
    gi_wp2
    refine wpIn_wide.2 (wp_region_noPanic ?_)
    go_region
    all_goals (refine NoPanic.normal ?_)
    all_goals gi_wp2
    have hZ := HZ0.out
    have hK' : (put7 W (w.heap.size + 1 + 1) (m.getD zeroE)).drew.heap[D]? = some (.deferred (some [])) := ((put7_others W (w.heap.size + 1 + 1) (m.getD zeroE)).trans (KeepsOthers.drew _)).same D _ hK rfl
    have R : RowC (put7 W (w.heap.size + 1 + 1) (m.getD zeroE)).drew (w.heap.size + 1 + 1) (eqCells (m.getD zeroE)) := (put7_same _ R3.out).drew
    have C : ∀ j v, (eqCells (m.getD zeroE))[j]? = some v → ((put7 W (w.heap.size + 1 + 1) (m.getD zeroE)).drew.putObj D (.deferred none)).cell? ⟨w.heap.size + 1 + 1, j, none⟩ = some v := fun j v hv => cell_kept (R j v hv).1 (grownBy_putObj' _ D (.deferred none)) (fun r e => by cases e; exact ⟨_, hK', rfl⟩)
    have c0 := C 0 _ rfl
    have c1 := C 1 _ rfl
    have c2 := C 2 _ rfl
    have c3 := C 3 _ rfl
    have c4 := C 4 _ rfl
    have c5 := C 5 _ rfl
    have c6 := C 6 _ rfl
    have kk : Kept w ((put7 W (w.heap.size + 1 + 1) (m.getD zeroE)).drew.putObj D (.deferred none)) := ((put7_below (b := w.heap.size + 1 + 1) (m.getD zeroE) hkW.below (by omega)).drew).trans (belowK_b (w := w) (Nat.le_refl _) _ D _ _ (by omega) hK' rfl rfl)
    clear R C
    unfold put7 at hK' c0 c1 c2 c3 c4 c5 c6 kk
    refine ⟨by simp, .inl ⟨_, _, rfl, run_takeDeferred hK', ?_⟩⟩
    refine ⟨.tuple #[eqV (m.getD zeroE), .bool m.isSome], ?_, by rw [HM.out], kk⟩
    simp [results, Tryz.f161, go_sem, c0, c1, c2, c3, c4, c5, c6, eqV]
  case stop =>
    rintro D c pre W _ _ h _
    exact h.elim
end Go.Proofs.YtcjpecdnenemaaaGreatDoor

namespace Go.Proofs.YtcjpecdnenemaaaGreatDoor
set_option linter.all false
open Go.RowKit Go.Shelf

def forV (r : Option Eqv) : Value := .tuple #[eqV (r.getD zeroE), .bool r.isSome]
set_option maxRecDepth 100000 in
theorem inForce_any (A : Option Addr) (n c : Nat) (xs : List Eqv) (sort : ByteArray) (day known : Int) (w : World) (hT : TabA w A n c xs) (hlt : n ≤ 1000000) :
    Calls Tryz.prog 115 #[.slice A n c, .string sort, .int .i64 day, .int .i64 known] w fun e w' => e = .returned (forV (inForceS xs sort day known)) ∧ Kept w w' := by
  have hmf : ∀ (fn : Fn) (first cap : Array Value) (w : World), (Instr.makeFunc fn first cap).run Tryz.prog w = .ok (.func fn first cap) w := fun _ _ _ _ => rfl
  have HT := Lib.hid hT
  clear hT
  go_enter Tryz.func115, Tryz.ntmps115
  obtain ⟨W0, hW0⟩ : ∃ W0 : World, W0 = ((w.alloc (.cells #[.string sort] 9)).alloc (.cells #[.int .i64 day] 3)).alloc (boxX zeroE) := ⟨_, rfl⟩
  have K0 : Kept w W0 := by rw [hW0]; exact (((Kept.refl w).alloc _).alloc _).alloc _
  have Z0 : W0.heap.size = w.heap.size + 1 + 1 + 1 := by rw [hW0]; simp
  have S0 : W0.cell? ⟨w.heap.size, 0, none⟩ = some (.string sort) := by rw [hW0]; exact (((RowC.new w [.string sort] 9).kept ((Kept.refl _).alloc _)).kept ((Kept.refl _).alloc _) 0 _ rfl).1
  have D0 : W0.cell? ⟨w.heap.size + 1, 0, none⟩ = some (.int .i64 day) := by
    have := RowC.new (w.alloc (.cells #[.string sort] 9)) [.int .i64 day] 3
    rw [World.size_alloc] at this
    rw [hW0]; exact (this.kept ((Kept.refl _).alloc _) 0 _ rfl).1
  have R0 : RowC W0 (w.heap.size + 1 + 1) (eqCells zeroE) := by
    have := RowC.new ((w.alloc (.cells #[.string sort] 9)).alloc (.cells #[.int .i64 day] 3)) (eqCells zeroE) 37
    rw [World.size_alloc, World.size_alloc] at this
    rw [hW0]; exact this
  simp only [boxX, zeroE] at hW0
  have HW0 := Lib.hid hW0
  have HZ0 := Lib.hid Z0
  have HS0 := Lib.hid S0
  have HD0 := Lib.hid D0
  have HR0 := Lib.hid R0
  clear hW0 Z0 S0 D0 R0
  go_wp2_with fail
  rw [← HW0.out]
  refine (counting_any A n c known W0).mono ?_
  rintro e W1 ⟨rfl, hW1⟩
  have K1 : Kept W0 W1 := by rw [hW1]; exact ((Kept.refl _).alloc _).alloc _
  have L1 : W1.cell? ⟨W0.heap.size, 0, none⟩ = some (.slice A n c) := by rw [hW1]; exact ((RowC.new W0 [.slice A n c] 35).kept ((Kept.refl _).alloc _) 0 _ rfl).1
  have N1 : W1.cell? ⟨W0.heap.size + 1, 0, none⟩ = some (.int .i64 known) := by
    have := RowC.new (W0.alloc (.cells #[.slice A n c] 35)) [.int .i64 known] 3
    rw [World.size_alloc] at this
    rw [hW1]; exact (this 0 _ rfl).1
  have HL1 := Lib.hid L1
  have HN1 := Lib.hid N1
  clear hW1 L1 N1
  go_wp2_with fail
  refine (greatest_any W0.heap.size (W0.heap.size + 1) w.heap.size (w.heap.size + 1) A n c xs known day sort W1 HL1.out HN1.out ((HT.out.kept K0).kept K1) hlt ((K1.cells _ _ (cell_lt HS0.out)).trans HS0.out) ((K1.cells _ _ (cell_lt HD0.out)).trans HD0.out)).mono ?_
  rintro e W2 ⟨rfl, K2⟩
  have K : Kept w W2 := (K0.trans K1).trans K2
  have R := (HR0.out.kept K1).kept K2
  have hR := Lib.hid R
  have t0 := (R 0 _ rfl).1
  have t1 := (R 1 _ rfl).1
  have t2 := (R 2 _ rfl).1
  have t3 := (R 3 _ rfl).1
  have t4 := (R 4 _ rfl).1
  have t5 := (R 5 _ rfl).1
  have t6 := (R 6 _ rfl).1
  have z0 := (R 0 _ rfl).2
  have z1 := (R 1 _ rfl).2
  have z2 := (R 2 _ rfl).2
  have z3 := (R 3 _ rfl).2
  have z4 := (R 4 _ rfl).2
  have z5 := (R 5 _ rfl).2
  have z6 := (R 6 _ rfl).2
  dsimp only [zeroE] at t0 t1 t2 t3 t4 t5 t6
  clear R
  obtain ⟨m, hm⟩ : ∃ m, inForceS xs sort day known = m := ⟨_, rfl⟩
  rw [hm]
  have HM := Lib.hid hm
  clear hm
  unfold eqV
  go_wp2
  refine bodyPost_ret (v := forV m) (by simp [results, Tryz.results115, go_sem, t0, t1, t2, t3, t4, t5, t6, forV, eqV]) rfl ⟨by rw [HM.out], ?_⟩
  exact put7_below (b := w.heap.size + 1 + 1) (m.getD zeroE) K.below (by omega)

/-- what Of returns -/
def ofS (xs : List Eqv) (sort : ByteArray) (day known : Int) : Eqv × Int :=
  if (chkS xs).2 = 0 then (match inForceS xs sort day known with | some x => (x, 0) | none => (zeroE, 10)) else (zeroE, (chkS xs).2)
def ofV (r : Eqv × Int) : Value := .tuple #[eqV r.1, .int .i64 r.2]
set_option maxRecDepth 100000 in
set_option maxHeartbeats 1600000 in
theorem of_any (A : Option Addr) (n c : Nat) (xs : List Eqv) (sort : ByteArray) (day known : Int) (w : World) (hT : TabA w A n c xs) (hlt : n ≤ 1000000) :
    Calls Tryz.prog 48 #[.slice A n c, .string sort, .int .i64 day, .int .i64 known] w fun e w' => e = .returned (ofV (ofS xs sort day known)) ∧ Kept w w' := by
  have HT := Lib.hid hT
  clear hT
  obtain ⟨E, hE⟩ : ∃ E, E = chkS xs := ⟨_, rfl⟩
  have HE := Lib.hid hE
  have R0 : RowC (w.alloc (boxX zeroE)) w.heap.size (eqCells zeroE) := RowC.new w (eqCells zeroE) 37
  have HR0 := Lib.hid R0
  clear R0
  by_cases h0 : E.2 = 0
  · have h0' : (E.2 != 0) = false := by simp [h0]
    rcases hf : inForceS xs sort day known with _ | x
    · have HO := Lib.hid (show ofS xs sort day known = (zeroE, 10) by unfold ofS; rw [← hE, if_pos h0, hf])
      have HF := Lib.hid hf
      clear hf h0 hE
      go_enter Tryz.func48, Tryz.ntmps48
      go_wp2_with fail
      refine (check_any A n c xs _ (HT.out.kept ((Kept.refl _).alloc _))).mono ?_
      rw [← HE.out]
      rintro e w1 ⟨rfl, hk1⟩
      obtain ⟨hc1, hfz1, hz1⟩ := hk1.facts
      go_wp2_with fail
      refine (inForce_any A n c xs sort day known _ ((HT.out.kept ((Kept.refl _).alloc _)).kept hk1) hlt).mono ?_
      rw [HF.out]
      rintro e w2 ⟨rfl, hk2'⟩
      have hk2 := hk1.trans hk2'
      have R := HR0.out.kept hk2
      have t0 := (R 0 _ rfl).1
      have z0 := (R 0 _ rfl).2
      have t1 := (R 1 _ rfl).1
      have z1 := (R 1 _ rfl).2
      have t2 := (R 2 _ rfl).1
      have z2 := (R 2 _ rfl).2
      have t3 := (R 3 _ rfl).1
      have z3 := (R 3 _ rfl).2
      have t4 := (R 4 _ rfl).1
      have z4 := (R 4 _ rfl).2
      have t5 := (R 5 _ rfl).1
      have z5 := (R 5 _ rfl).2
      have t6 := (R 6 _ rfl).1
      have z6 := (R 6 _ rfl).2
      dsimp only [zeroE] at t0 t1 t2 t3 t4 t5 t6
      have hzz := hk2.size
      simp only [World.size_alloc] at hzz
      have hzq : w.heap.size < w2.heap.size := by omega
      clear hc1 hfz1 hz1 R hzz
      dsimp only [forV, eqV, Option.getD_none, Option.getD_some, Option.isSome_none, Option.isSome_some, zeroE]
      go_wp2
      refine bodyPost_ret (v := ofV (zeroE, 10)) (by simp [results, Tryz.results48, go_sem, hzq, t0, t1, t2, t3, t4, t5, t6, ofV, eqV, zeroE]) rfl ⟨by rw [HO.out], ?_⟩
      exact Kept.alloc (show Kept w (put7 w2 w.heap.size zeroE) from put7_below (b := w.heap.size) zeroE (((Kept.refl w).alloc _).trans hk2).below (Nat.le_refl _)) _
    · have HO := Lib.hid (show ofS xs sort day known = (x, 0) by unfold ofS; rw [← hE, if_pos h0, hf])
      have HF := Lib.hid hf
      clear hf h0 hE
      go_enter Tryz.func48, Tryz.ntmps48
      go_wp2_with fail
      refine (check_any A n c xs _ (HT.out.kept ((Kept.refl _).alloc _))).mono ?_
      rw [← HE.out]
      rintro e w1 ⟨rfl, hk1⟩
      obtain ⟨hc1, hfz1, hz1⟩ := hk1.facts
      go_wp2_with fail
      refine (inForce_any A n c xs sort day known _ ((HT.out.kept ((Kept.refl _).alloc _)).kept hk1) hlt).mono ?_
      rw [HF.out]
      rintro e w2 ⟨rfl, hk2'⟩
      have hk2 := hk1.trans hk2'
      have R := HR0.out.kept hk2
      have t0 := (R 0 _ rfl).1
      have z0 := (R 0 _ rfl).2
      have t1 := (R 1 _ rfl).1
      have z1 := (R 1 _ rfl).2
      have t2 := (R 2 _ rfl).1
      have z2 := (R 2 _ rfl).2
      have t3 := (R 3 _ rfl).1
      have z3 := (R 3 _ rfl).2
      have t4 := (R 4 _ rfl).1
      have z4 := (R 4 _ rfl).2
      have t5 := (R 5 _ rfl).1
      have z5 := (R 5 _ rfl).2
      have t6 := (R 6 _ rfl).1
      have z6 := (R 6 _ rfl).2
      dsimp only [zeroE] at t0 t1 t2 t3 t4 t5 t6
      have hzz := hk2.size
      simp only [World.size_alloc] at hzz
      have hzq : w.heap.size < w2.heap.size := by omega
      clear hc1 hfz1 hz1 R hzz
      dsimp only [forV, eqV, Option.getD_none, Option.getD_some, Option.isSome_none, Option.isSome_some, zeroE]
      go_wp2
      refine bodyPost_ret (v := ofV (x, 0)) (by simp [results, Tryz.results48, go_sem, hzq, t0, t1, t2, t3, t4, t5, t6, ofV, eqV, zeroE]) rfl ⟨by rw [HO.out], ?_⟩
      exact Kept.alloc (show Kept w (put7 w2 w.heap.size x) from put7_below (b := w.heap.size) x (((Kept.refl w).alloc _).trans hk2).below (Nat.le_refl _)) _
  · have h0' : (E.2 != 0) = true := by simp [h0]
    have HO := Lib.hid (show ofS xs sort day known = (zeroE, E.2) by unfold ofS; rw [← hE, if_neg h0])
    clear h0 hE
    go_enter Tryz.func48, Tryz.ntmps48
    go_wp2_with fail
    refine (check_any A n c xs _ (HT.out.kept ((Kept.refl _).alloc _))).mono ?_
    rw [← HE.out]
    rintro e w1 ⟨rfl, hk1⟩
    obtain ⟨hc1, hfz1, hz1⟩ := hk1.facts
    have hk2 := hk1
    have R := HR0.out.kept hk2
    have t0 := (R 0 _ rfl).1
    have z0 := (R 0 _ rfl).2
    have t1 := (R 1 _ rfl).1
    have z1 := (R 1 _ rfl).2
    have t2 := (R 2 _ rfl).1
    have z2 := (R 2 _ rfl).2
    have t3 := (R 3 _ rfl).1
    have z3 := (R 3 _ rfl).2
    have t4 := (R 4 _ rfl).1
    have z4 := (R 4 _ rfl).2
    have t5 := (R 5 _ rfl).1
    have z5 := (R 5 _ rfl).2
    have t6 := (R 6 _ rfl).1
    have z6 := (R 6 _ rfl).2
    dsimp only [zeroE] at t0 t1 t2 t3 t4 t5 t6
    have hzz := hk2.size
    simp only [World.size_alloc] at hzz
    have hzq : w.heap.size < w1.heap.size := by omega
    clear hc1 hfz1 hz1 R hzz
    go_wp2
    refine bodyPost_ret (v := ofV (zeroE, E.2)) (by simp [results, Tryz.results48, go_sem, hzq, t0, t1, t2, t3, t4, t5, t6, ofV, eqV, zeroE]) rfl ⟨by rw [HO.out], ?_⟩
    exact (show Kept w (put7 w1 w.heap.size zeroE) from put7_below (b := w.heap.size) zeroE (((Kept.refl w).alloc _).trans hk2).below (Nat.le_refl _))

/-- the Stints of what is in force -/
def stS (r : Option Eqv) : Int × Int := ((r.getD zeroE).num, (r.getD zeroE).den)
set_option maxRecDepth 100000 in
theorem stintsOn_any (A : Option Addr) (n c : Nat) (xs : List Eqv) (sort : ByteArray) (day known : Int) (w : World) (hT : TabA w A n c xs) (hlt : n ≤ 1000000) :
    Calls Tryz.prog 122 #[.slice A n c, .string sort, .int .i64 day, .int .i64 known] w fun e w' => e = .returned (.agg #[.int .i64 (stS (inForceS xs sort day known)).1, .int .i64 (stS (inForceS xs sort day known)).2]) ∧ Kept w w' := by
  have HT := Lib.hid hT
  clear hT
  have R0 : RowC (w.alloc (.cells #[.int .i64 0, .int .i64 0] 23)) w.heap.size [.int .i64 0, .int .i64 0] := RowC.new w [.int .i64 0, .int .i64 0] 23
  have HR0 := Lib.hid R0
  clear R0
  go_enter Tryz.func122, Tryz.ntmps122
  go_wp2_with fail
  refine (inForce_any A n c xs sort day known _ (HT.out.kept ((Kept.refl _).alloc _)) hlt).mono ?_
  rintro e w1 ⟨rfl, hk1⟩
  obtain ⟨m, hm⟩ : ∃ m, inForceS xs sort day known = m := ⟨_, rfl⟩
  rw [hm]
  have HM := Lib.hid hm
  clear hm
  have R := HR0.out.kept hk1
  have t0 := (R 0 _ rfl).1
  have z0 := (R 0 _ rfl).2
  have t1 := (R 1 _ rfl).1
  have z1 := (R 1 _ rfl).2
  have hzz := hk1.size
  simp only [World.size_alloc] at hzz
  have hzq : w.heap.size < w1.heap.size := by omega
  clear R hzz
  dsimp only [forV, eqV]
  go_wp2
  refine bodyPost_ret (v := .agg #[.int .i64 (m.getD zeroE).num, .int .i64 (m.getD zeroE).den]) (by simp [results, Tryz.results122, go_sem, hzq, t0, t1]) rfl ⟨by rw [HM.out]; rfl, ?_⟩
  exact ((((Kept.refl w).alloc _).trans hk1).setCell (by simp) _ |>.setCell (by simp) _).alloc _
end Go.Proofs.YtcjpecdnenemaaaGreatDoor

namespace Go.Proofs.YtcjpecdnenemaaaGreatDoor
set_option linter.all false
open Go.RowKit Go.Shelf

theorem div64_zero (lo c : Int) (h0 : 0 ≤ lo) (h1 : lo ≤ 18446744073709551615) (c0 : 0 < c) (c1 : c ≤ 18446744073709551615) (w : World) :
    Calls Tryz.prog 173 #[.int .u64 0, .int .u64 lo, .int .u64 c] w fun e w' => e = .returned (.tuple #[.int .u64 (lo / c), .int .u64 (lo % c)]) ∧ Kept w w' := by
  have n0 : (c == 0) = false := by simp; omega
  have n1 : decide (c ≤ 0) = false := by simp; omega
  go_enter Tryz.func173, Tryz.ntmps173
  go_wp2_with fail
  go_quiet (fail)
  go_wp2
  go_ret2
  exact ⟨rfl, (Kept.refl _).drewN _⟩
theorem mul64_small (a b p : Int) (ha : 0 ≤ a) (hb : 0 ≤ b) (ha1 : a ≤ 18446744073709551615) (hb1 : b ≤ 18446744073709551615) (hp : a * b = p) (h : p ≤ 18446744073709551615) (w : World) :
    Calls Tryz.prog 172 #[.int .u64 a, .int .u64 b] w fun e w' => e = .returned (.tuple #[.int .u64 0, .int .u64 p]) ∧ w = w' := by
  obtain ⟨x, rfl⟩ := Int.eq_ofNat_of_zero_le ha
  obtain ⟨y, rfl⟩ := Int.eq_ofNat_of_zero_le hb
  subst hp
  have hxy : x * y < 18446744073709551616 := by have : ((x * y : Nat) : Int) ≤ 18446744073709551615 := by push_cast; exact h
                                                omega
  refine (Tryz.bits_Mul64 x y (by omega) (by omega) w).mono ?_
  rintro e w' ⟨rfl, rfl⟩
  rw [Nat.div_eq_of_lt hxy, Nat.mod_eq_of_lt hxy]
  exact ⟨by simp, rfl⟩

/-- a quotient of beasts -/
def ratS (a b c : Int) : Int := min (a * b / c) 100000
theorem ratio_any (a b c : Int) (ha : 0 ≤ a) (hb : 0 ≤ b) (hc : 0 < c) (ha1 : a ≤ 9223372036854775807) (hb1 : b ≤ 9223372036854775807) (hc1 : c ≤ 9223372036854775807) (h : a * b ≤ 18446744073709551615) (w : World) :
    Calls Tryz.prog 132 #[.int .i64 a, .int .i64 b, .int .i64 c] w fun e w' => e = .returned (.int .i64 (ratS a b c)) ∧ Kept w w' := by
  obtain ⟨p, hp⟩ : ∃ p, a * b = p := ⟨_, rfl⟩
  have hp0 : 0 ≤ p := by rw [← hp]; exact Int.mul_nonneg ha hb
  rw [hp] at h
  obtain ⟨q, hq⟩ : ∃ q, p / c = q := ⟨_, rfl⟩
  have hq0 : 0 ≤ q := by rw [← hq]; exact Int.ediv_nonneg hp0 (by omega)
  have hq1 : q ≤ 18446744073709551615 := by rw [← hq]; exact Int.le_trans (Int.ediv_le_self _ hp0) h
  have HP := Lib.hid hp
  have HQ := Lib.hid hq
  clear hp hq
  go_enter Tryz.func132, Tryz.ntmps132
  go_wp2_with fail
  refine (mul64_small a b p ha hb (by omega) (by omega) HP.out h _).mono ?_
  rintro e w1 ⟨rfl, rfl⟩
  go_wp2_with fail
  refine (div64_zero p c hp0 h hc (by omega) _).mono ?_
  rw [HQ.out]
  rintro e w1 ⟨rfl, hk1⟩
  go_wp2
  go_ret
  exact ⟨ret_int (by unfold ratS; rw [HP.out, HQ.out]), hk1⟩

/-- how many beasts that take up en / ed each fit on sn / sd -/
def fitS (sn sd en ed : Int) : Int := if sn < 0 then 0 else ratS sn ed (sd * en)
theorem fitting_any (sn sd en ed : Int) (hs : Bd sn sd) (he : Bd en ed) (hp : 0 < en) (w : World) :
    Calls Tryz.prog 130 #[.agg #[.int .i64 sn, .int .i64 sd], .agg #[.int .i64 en, .int .i64 ed]] w fun e w' => e = .returned (.int .i64 (fitS sn sd en ed)) ∧ Kept w w' := by
  obtain ⟨⟨a1, a2⟩, a3, a4⟩ := hs
  obtain ⟨⟨b1, b2⟩, b3, b4⟩ := he
  by_cases h : sn < 0
  · have hr : fitS sn sd en ed = 0 := by unfold fitS; rw [if_pos h]
    have HR := Lib.hid hr
    clear hr
    go_enter Tryz.func130, Tryz.ntmps130
    go_wp2
    go_ret
    exact ⟨ret_int HR.out.symm, ((Kept.refl _).alloc _).alloc _⟩
  · have hr : fitS sn sd en ed = ratS sn ed (sd * en) := by unfold fitS; rw [if_neg h]
    have HR := Lib.hid hr
    clear hr
    have p1 := mul_bd 1000000000000 1000000 a3 a4 (by omega) b2 (by omega)
    have p2 := mul_bd (n := en) (d := sd) 1000000000000 1000000 b3 b4 (by omega) a2 (by omega)
    have p3 := mul_pos1 a1 (show 1 ≤ en by omega)
    rw [Int.mul_comm en sd] at p2
    obtain ⟨p11, p12⟩ := p1
    obtain ⟨p21, p22⟩ := p2
    go_enter Tryz.func130, Tryz.ntmps130
    go_wp2_with fail
    refine (ratio_any sn ed (sd * en) (by omega) (by omega) (by omega) (by omega) (by omega) (by omega) (by omega) _).mono ?_
    rintro e w1 ⟨rfl, hk1⟩
    go_wp2
    go_ret
    exact ⟨ret_int HR.out.symm, (((Kept.refl _).alloc _).alloc _).trans hk1⟩
end Go.Proofs.YtcjpecdnenemaaaGreatDoor

namespace Go.Proofs.YtcjpecdnenemaaaGreatDoor
set_option linter.all false
open Go.RowKit Go.Shelf

theorem chk_all {xs : List Eqv} (h : (chkS xs).2 = 0) : ∀ j, j < xs.length → refAt xs j = 0 := by
  unfold chkS at h
  rcases hf : (List.range xs.length).find? (fun i => refAt xs i != 0) with _ | i
  · intro j hj
    rw [List.find?_eq_none] at hf
    have := hf j (by simpa using hj)
    simpa using this
  · rw [hf] at h
    have := List.find?_some hf
    simp at this h
    exact absurd h this
theorem refS_form {xs : List Eqv} {x : Eqv} (h : refS xs x = 0) : formB x = true := by
  unfold refS at h
  by_cases h1 : xs.length = 200
  · rw [if_pos h1] at h; cases h
  · rw [if_neg h1] at h
    by_cases h2 : formB x = false
    · rw [if_pos h2] at h; cases h
    · simpa using h2
theorem chk_form {xs : List Eqv} (h : (chkS xs).2 = 0) {x : Eqv} (hx : x ∈ xs) : formB x = true := by
  obtain ⟨j, hj⟩ := List.getElem?_of_mem hx
  have hl := (List.getElem?_eq_some_iff.1 hj).1
  have := chk_all h j hl
  unfold refAt at this
  rw [hj] at this
  exact refS_form this
theorem gst_mem (sort : ByteArray) (day : Int) : ∀ (l : List Eqv) (acc : Option Eqv) (r : Eqv), l.foldl (gst sort day) acc = some r → acc = some r ∨ (r ∈ l ∧ fitB sort day r = true)
  | [], acc, r, h => .inl h
  | x :: l, acc, r, h => by
    rcases gst_mem sort day l _ r h with h' | ⟨h1, h2⟩
    · unfold gst at h'
      by_cases hf : fitB sort day x = true
      · rw [if_pos hf] at h'
        cases acc with
        | none => simp at h'; subst h'; exact .inr ⟨by simp, hf⟩
        | some b =>
          simp only at h'
          split at h'
          · simp at h'; subst h'; exact .inr ⟨by simp, hf⟩
          · exact .inl h'
      · rw [if_neg hf] at h'; exact .inl h'
    · exact .inr ⟨by simp [h1], h2⟩
theorem inForce_mem {xs : List Eqv} {sort : ByteArray} {day known : Int} {r : Eqv} (h : inForceS xs sort day known = some r) : r ∈ xs ∧ r.off = 0 ∧ fitB sort day r = true := by
  rcases gst_mem sort day _ none r h with h' | ⟨h1, h2⟩
  · cases h'
  · unfold cntS at h1
    rw [List.mem_filter] at h1
    refine ⟨h1.1, ?_, h2⟩
    have := h1.2
    unfold cntP at this
    simp at this
    exact this.1.1
theorem form_equiv {x : Eqv} (h : formB x = true) (h0 : x.off = 0) : equivB x = true := by
  unfold formB at h
  simp only [Bool.and_eq_true, Bool.or_eq_true] at h
  rcases h.2 with h | h
  · exact h
  · unfold voidB at h
    simp only [Bool.and_eq_true, inB_iff] at h
    omega
/-- the Stints of what is in force -/
theorem inForce_ok {xs : List Eqv} {sort : ByteArray} {day known : Int} {r : Eqv} (hc : (chkS xs).2 = 0) (h : inForceS xs sort day known = some r) : vld r.num r.den = true ∧ 0 < r.num ∧ r.num ≤ 1000 * r.den := by
  obtain ⟨h1, h2, _⟩ := inForce_mem h
  have := form_equiv (chk_form hc h1) h2
  unfold equivB at this
  simp only [Bool.and_eq_true, decide_eq_true_eq] at this
  obtain ⟨⟨⟨_, hv⟩, hn⟩, hcmp⟩ := this
  refine ⟨hv, hn, ?_⟩
  unfold cmpS at hcmp
  have h11 : vld 1000 1 = true := by decide
  rw [hv, h11] at hcmp
  simp only [Bool.and_self, if_true] at hcmp
  unfold cmpI at hcmp
  by_cases a : r.num * 1 < 1000 * r.den
  · omega
  · rw [if_neg a] at hcmp
    by_cases b : r.num * 1 > 1000 * r.den
    · rw [if_pos b] at hcmp; omega
    · omega

/-- what Most returns -/
def mostS (xs : List Eqv) (sort : ByteArray) (sn sd day known : Int) : Int × Int :=
  if (chkS xs).2 = 0 then (if vld sn sd = true then (match inForceS xs sort day known with | some x => (fitS sn sd x.num x.den, 0) | none => (0, 10)) else (0, 1)) else (0, (chkS xs).2)
def i2V (r : Int × Int) : Value := .tuple #[.int .i64 r.1, .int .i64 r.2]
set_option maxRecDepth 100000 in
set_option maxHeartbeats 1600000 in
theorem most_any (A : Option Addr) (n c : Nat) (xs : List Eqv) (sort : ByteArray) (sn sd day known : Int) (w : World) (hT : TabA w A n c xs) (hlt : n ≤ 1000000) :
    Calls Tryz.prog 66 #[.slice A n c, .string sort, .agg #[.int .i64 sn, .int .i64 sd], .int .i64 day, .int .i64 known] w fun e w' => e = .returned (i2V (mostS xs sort sn sd day known)) ∧ Kept w w' := by
  have HT := Lib.hid hT
  clear hT
  obtain ⟨E, hE⟩ : ∃ E, E = chkS xs := ⟨_, rfl⟩
  have HE := Lib.hid hE
  have B0 : RowC (w.alloc (.cells #[.int .i64 sn, .int .i64 sd] 23)) w.heap.size [.int .i64 sn, .int .i64 sd] := RowC.new w [.int .i64 sn, .int .i64 sd] 23
  have HB0 := Lib.hid B0
  clear B0
  by_cases h0 : E.2 = 0
  · have h0' : (E.2 != 0) = false := by simp [h0]
    by_cases hv : vld sn sd = true
    · have hb := vld_bd hv
      have HV := Lib.hid hv
      rcases hf : inForceS xs sort day known with _ | x
      · have HO := Lib.hid (show mostS xs sort sn sd day known = (0, 10) by unfold mostS; rw [← hE, if_pos h0, if_pos hv, hf])
        have HF := Lib.hid hf
        clear hf h0 hE hv hb
        go_enter Tryz.func66, Tryz.ntmps66
        go_wp2_with fail
        refine (check_any A n c xs _ (HT.out.kept ((Kept.refl _).alloc _))).mono ?_
        rw [← HE.out]
        rintro e w1 ⟨rfl, hk1⟩
        have R := HB0.out.kept hk1
        have p0 := (R 0 _ rfl).1
        have p1 := (R 1 _ rfl).1
        go_wp2_with fail
        refine (valid_any sn sd _).mono ?_
        rw [HV.out]
        rintro e w2 ⟨rfl, hk2'⟩
        have hk2 := hk1.trans hk2'
        clear R p0 p1
        go_wp2_with fail
        refine (inForce_any A n c xs sort day known _ ((HT.out.kept ((Kept.refl _).alloc _)).kept hk2) hlt).mono ?_
        rw [HF.out]
        rintro e w3 ⟨rfl, hk3'⟩
        have hk3 := hk2.trans hk3'
        dsimp only [forV, eqV, Option.getD_none, Option.isSome_none, zeroE]
        go_wp2
        go_ret2
        exact ⟨by rw [HO.out]; rfl, (((Kept.refl _).alloc _).trans hk3).alloc _⟩
      · have HO := Lib.hid (show mostS xs sort sn sd day known = (fitS sn sd x.num x.den, 0) by unfold mostS; rw [← hE, if_pos h0, if_pos hv, hf])
        have HF := Lib.hid hf
        have hok := inForce_ok (by rw [← hE]; exact h0) hf
        have hbx := vld_bd hok.1
        have hpx := hok.2.1
        clear hf h0 hE hv hok
        go_enter Tryz.func66, Tryz.ntmps66
        go_wp2_with fail
        refine (check_any A n c xs _ (HT.out.kept ((Kept.refl _).alloc _))).mono ?_
        rw [← HE.out]
        rintro e w1 ⟨rfl, hk1⟩
        have R := HB0.out.kept hk1
        have p0 := (R 0 _ rfl).1
        have p1 := (R 1 _ rfl).1
        go_wp2_with fail
        refine (valid_any sn sd _).mono ?_
        rw [HV.out]
        rintro e w2 ⟨rfl, hk2'⟩
        have hk2 := hk1.trans hk2'
        clear R p0 p1
        go_wp2_with fail
        refine (inForce_any A n c xs sort day known _ ((HT.out.kept ((Kept.refl _).alloc _)).kept hk2) hlt).mono ?_
        rw [HF.out]
        rintro e w3 ⟨rfl, hk3'⟩
        have hk3 := hk2.trans hk3'
        have R := HB0.out.kept hk3
        have p0 := (R 0 _ rfl).1
        have p1 := (R 1 _ rfl).1
        have hwl := cell_lt p0
        dsimp only [forV, eqV, Option.getD_some, Option.isSome_some]
        go_wp2_with fail
        refine (fitting_any sn sd x.num x.den hb hbx hpx _).mono ?_
        rintro e w4 ⟨rfl, hk4⟩
        go_wp2
        go_ret2
        exact ⟨by rw [HO.out]; rfl, ((((Kept.refl _).alloc _).trans hk3).alloc _).trans hk4⟩
    · have HO := Lib.hid (show mostS xs sort sn sd day known = (0, 1) by unfold mostS; rw [← hE, if_pos h0, if_neg hv])
      have HV := Lib.hid (show vld sn sd = false by simpa using hv)
      clear h0 hE hv
      go_enter Tryz.func66, Tryz.ntmps66
      go_wp2_with fail
      refine (check_any A n c xs _ (HT.out.kept ((Kept.refl _).alloc _))).mono ?_
      rw [← HE.out]
      rintro e w1 ⟨rfl, hk1⟩
      have R := HB0.out.kept hk1
      have p0 := (R 0 _ rfl).1
      have p1 := (R 1 _ rfl).1
      go_wp2_with fail
      refine (valid_any sn sd _).mono ?_
      rw [HV.out]
      rintro e w2 ⟨rfl, hk2'⟩
      have hk2 := hk1.trans hk2'
      clear R p0 p1
      go_wp2
      go_ret2
      exact ⟨by rw [HO.out]; rfl, ((Kept.refl _).alloc _).trans hk2⟩
  · have h0' : (E.2 != 0) = true := by simp [h0]
    have HO := Lib.hid (show mostS xs sort sn sd day known = (0, E.2) by unfold mostS; rw [← hE, if_neg h0])
    clear h0 hE
    go_enter Tryz.func66, Tryz.ntmps66
    go_wp2_with fail
    refine (check_any A n c xs _ (HT.out.kept ((Kept.refl _).alloc _))).mono ?_
    rw [← HE.out]
    rintro e w1 ⟨rfl, hk1⟩
    go_wp2
    go_ret2
    exact ⟨by rw [HO.out]; rfl, ((Kept.refl _).alloc _).trans hk1⟩

/-- what Exchange returns -/
def exS (xs : List Eqv) (fr tt : ByteArray) (n day known : Int) : Int × Int :=
  if (chkS xs).2 = 0 then (if inB n 0 100000 = true then (match inForceS xs fr day known, inForceS xs tt day known with | some x, some y => (ratS (n * x.num) y.den (x.den * y.num), 0) | _, _ => (0, 10)) else (0, 1)) else (0, (chkS xs).2)
set_option maxRecDepth 100000 in
set_option maxHeartbeats 1600000 in
theorem exchange_any (A : Option Addr) (n c : Nat) (xs : List Eqv) (fr tt : ByteArray) (m day known : Int) (w : World) (hT : TabA w A n c xs) (hlt : n ≤ 1000000)
    (hsm : ∀ x y, inForceS xs fr day known = some x → inForceS xs tt day known = some y → inB m 0 100000 = true → m * x.num * y.den ≤ 18446744073709551615) :
    Calls Tryz.prog 68 #[.slice A n c, .string fr, .string tt, .int .i64 m, .int .i64 day, .int .i64 known] w fun e w' => e = .returned (i2V (exS xs fr tt m day known)) ∧ Kept w w' := by
  have HT := Lib.hid hT
  clear hT
  obtain ⟨E, hE⟩ : ∃ E, E = chkS xs := ⟨_, rfl⟩
  have HE := Lib.hid hE
  by_cases h0 : E.2 = 0
  · have h0' : (E.2 != 0) = false := by simp [h0]
    by_cases hv : inB m 0 100000 = true
    · have HV := Lib.hid hv
      rcases hfx : inForceS xs fr day known with _ | x
      · obtain ⟨y, hy⟩ : ∃ y, inForceS xs tt day known = y := ⟨_, rfl⟩
        have HO := Lib.hid (show exS xs fr tt m day known = (0, 10) by unfold exS; rw [← hE, if_pos h0, if_pos hv, hfx])
        have HFx := Lib.hid hfx
        have HFy := Lib.hid hy
        clear hfx hy h0 hE hv hsm
        go_enter Tryz.func68, Tryz.ntmps68
        go_wp2_with fail
        refine (check_any A n c xs _ (HT.out.kept (Kept.refl _))).mono ?_
        rw [← HE.out]
        rintro e w1 ⟨rfl, hk1⟩
        go_wp2_with fail
        refine (within_any m 0 100000 _).mono ?_
        rw [HV.out]
        rintro e w2 ⟨rfl, rfl⟩
        go_wp2_with fail
        refine (inForce_any A n c xs fr day known _ (HT.out.kept hk1) hlt).mono ?_
        rw [HFx.out]
        rintro e w3 ⟨rfl, hk3'⟩
        have hk3 := hk1.trans hk3'
        dsimp only [forV, eqV, Option.getD_none, Option.getD_some, Option.isSome_none, Option.isSome_some, zeroE]
        go_wp2_with fail
        refine (inForce_any A n c xs tt day known _ (HT.out.kept (hk3.alloc _)) hlt).mono ?_
        rw [HFy.out]
        rintro e w4 ⟨rfl, hk4⟩
        dsimp only [forV, eqV, Option.getD_none, Option.getD_some, Option.isSome_none, Option.isSome_some, zeroE]
        go_wp2
        go_ret2
        exact ⟨by rw [HO.out]; rfl, (((hk3.alloc _).trans hk4).alloc _)⟩
      · rcases hfy : inForceS xs tt day known with _ | y
        · have HO := Lib.hid (show exS xs fr tt m day known = (0, 10) by unfold exS; rw [← hE, if_pos h0, if_pos hv, hfx, hfy])
          have HFx := Lib.hid hfx
          have HFy := Lib.hid hfy
          clear hfx hfy h0 hE hv hsm
          go_enter Tryz.func68, Tryz.ntmps68
          go_wp2_with fail
          refine (check_any A n c xs _ (HT.out.kept (Kept.refl _))).mono ?_
          rw [← HE.out]
          rintro e w1 ⟨rfl, hk1⟩
          go_wp2_with fail
          refine (within_any m 0 100000 _).mono ?_
          rw [HV.out]
          rintro e w2 ⟨rfl, rfl⟩
          go_wp2_with fail
          refine (inForce_any A n c xs fr day known _ (HT.out.kept hk1) hlt).mono ?_
          rw [HFx.out]
          rintro e w3 ⟨rfl, hk3'⟩
          have hk3 := hk1.trans hk3'
          dsimp only [forV, eqV, Option.getD_none, Option.getD_some, Option.isSome_none, Option.isSome_some, zeroE]
          go_wp2_with fail
          refine (inForce_any A n c xs tt day known _ (HT.out.kept (hk3.alloc _)) hlt).mono ?_
          rw [HFy.out]
          rintro e w4 ⟨rfl, hk4⟩
          dsimp only [forV, eqV, Option.getD_none, Option.getD_some, Option.isSome_none, Option.isSome_some, zeroE]
          go_wp2
          go_ret2
          exact ⟨by rw [HO.out]; rfl, (((hk3.alloc _).trans hk4).alloc _)⟩
        · have HO := Lib.hid (show exS xs fr tt m day known = (ratS (m * x.num) y.den (x.den * y.num), 0) by unfold exS; rw [← hE, if_pos h0, if_pos hv, hfx, hfy])
          have HFx := Lib.hid hfx
          have HFy := Lib.hid hfy
          have hbig := hsm x y hfx hfy hv
          obtain ⟨m0, m1⟩ := inB_iff.1 hv
          have hc0 : (chkS xs).2 = 0 := by rw [← hE]; exact h0
          obtain ⟨vx, px, qx⟩ := inForce_ok hc0 hfx
          obtain ⟨vy, py, qy⟩ := inForce_ok hc0 hfy
          obtain ⟨⟨bx1, bx2⟩, bx3, bx4⟩ := vld_bd vx
          obtain ⟨⟨by1, by2⟩, by3, by4⟩ := vld_bd vy
          have hxn : x.num ≤ 1000000000 := by omega
          have hyn : y.num ≤ 1000000000 := by omega
          have p1 := mul_bd (n := x.num) (d := m) 1000000000 100000 (by omega) hxn m0 m1 (by omega)
          have p2 := mul_bd (n := y.num) (d := x.den) 1000000000 1000000 (by omega) hyn (by omega) bx2 (by omega)
          have p3 := mul_pos1 bx1 (show 1 ≤ y.num by omega)
          have p4 := Int.mul_nonneg m0 (show 0 ≤ x.num by omega)
          rw [Int.mul_comm x.num m] at p1
          rw [Int.mul_comm y.num x.den] at p2
          obtain ⟨p11, p12⟩ := p1
          obtain ⟨p21, p22⟩ := p2
          clear hfx hfy h0 hE hv hsm hc0 vx vy
          go_enter Tryz.func68, Tryz.ntmps68
          go_wp2_with fail
          refine (check_any A n c xs _ (HT.out.kept (Kept.refl _))).mono ?_
          rw [← HE.out]
          rintro e w1 ⟨rfl, hk1⟩
          go_wp2_with fail
          refine (within_any m 0 100000 _).mono ?_
          rw [HV.out]
          rintro e w2 ⟨rfl, rfl⟩
          go_wp2_with fail
          refine (inForce_any A n c xs fr day known _ (HT.out.kept hk1) hlt).mono ?_
          rw [HFx.out]
          rintro e w3 ⟨rfl, hk3'⟩
          have hk3 := hk1.trans hk3'
          dsimp only [forV, eqV, Option.getD_none, Option.getD_some, Option.isSome_none, Option.isSome_some, zeroE]
          go_wp2_with fail
          refine (inForce_any A n c xs tt day known _ (HT.out.kept (hk3.alloc _)) hlt).mono ?_
          rw [HFy.out]
          rintro e w4 ⟨rfl, hk4⟩
          dsimp only [forV, eqV, Option.getD_none, Option.getD_some, Option.isSome_none, Option.isSome_some, zeroE]
          have X : RowC w4 w3.heap.size (eqCells x) := RowC.kept (RowC.new w3 (eqCells x) 37) hk4
          have x4 := (X 4 _ rfl).1
          have x5 := (X 5 _ rfl).1
          have hX := cell_lt x4
          clear X
          go_wp2_with fail
          refine (ratio_any (m * x.num) y.den (x.den * y.num) (by omega) (by omega) (by omega) (by omega) (by omega) (by omega) hbig _).mono ?_
          rintro e w5 ⟨rfl, hk5⟩
          go_wp2
          go_ret2
          exact ⟨by rw [HO.out]; rfl, (((hk3.alloc _).trans hk4).alloc _).trans hk5⟩
    · have HO := Lib.hid (show exS xs fr tt m day known = (0, 1) by unfold exS; rw [← hE, if_pos h0, if_neg hv])
      have HV := Lib.hid (show inB m 0 100000 = false by simpa using hv)
      clear h0 hE hv hsm
      go_enter Tryz.func68, Tryz.ntmps68
      go_wp2_with fail
      refine (check_any A n c xs _ (HT.out.kept (Kept.refl _))).mono ?_
      rw [← HE.out]
      rintro e w1 ⟨rfl, hk1⟩
      go_wp2_with fail
      refine (within_any m 0 100000 _).mono ?_
      rw [HV.out]
      rintro e w2 ⟨rfl, rfl⟩
      go_wp2
      go_ret2
      exact ⟨by rw [HO.out]; rfl, hk1⟩
  · have h0' : (E.2 != 0) = true := by simp [h0]
    have HO := Lib.hid (show exS xs fr tt m day known = (0, E.2) by unfold exS; rw [← hE, if_neg h0])
    clear h0 hE hsm
    go_enter Tryz.func68, Tryz.ntmps68
    go_wp2_with fail
    refine (check_any A n c xs _ (HT.out.kept (Kept.refl _))).mono ?_
    rw [← HE.out]
    rintro e w1 ⟨rfl, hk1⟩
    go_wp2
    go_ret2
    exact ⟨by rw [HO.out]; rfl, hk1⟩
end Go.Proofs.YtcjpecdnenemaaaGreatDoor
