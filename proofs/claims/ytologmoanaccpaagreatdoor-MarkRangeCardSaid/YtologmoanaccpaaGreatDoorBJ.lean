/-
  the first assignment that meets claims: first
  without a beast for an owner the claims cannot be met: certain
-/
import Derived.Test.YtologmoanaccpaaGreatDoorBH
import Derived.Test.YtologmoanaccpaaGreatDoorBI
import Derived.Stop.RegionWithIn
import Derived.Sort.CutIn
import Derived.Scope
namespace Go.Proofs.YtologmoanaccpaaGreatDoor
set_option linter.all false
open Go.RowKit Go.Shelf
attribute [local go_sem] Oper.semAt_some

def uV (f : Nat) : Value := .int .u64 (f : Int)
/-- marks of loops over iterators, on the way out -/
def mark (D : Nat) : Deferred := { target := .collected D, args := #[] }
def Mrk (ds : List Nat) (n0 : Nat) (W : World) : Prop := ds.Nodup ∧ ∀ D ∈ ds, n0 ≤ D ∧ W.heap[D]? = some (.deferred (some []))
theorem Mrk.lt {ds : List Nat} {n0 : Nat} {W : World} (h : Mrk ds n0 W) : ∀ D ∈ ds, D < W.heap.size := fun D hD => (Array.getElem?_eq_some_iff.1 (h.2 D hD).2).1
theorem Mrk.kept {ds : List Nat} {n0 : Nat} {W W' : World} (h : Mrk ds n0 W) (hk : Kept W W') : Mrk ds n0 W' := ⟨h.1, fun D hD => ⟨(h.2 D hD).1, (hk.block D (h.lt D hD)).trans (h.2 D hD).2⟩⟩
theorem Mrk.drew {ds : List Nat} {n0 : Nat} {W : World} (h : Mrk ds n0 W) : Mrk ds n0 W.drew := h
theorem Mrk.ne {ds : List Nat} {n0 : Nat} {W : World} (h : Mrk ds n0 W) {b o : Nat} {v : Value} (hc : W.cell? ⟨b, o, none⟩ = some v) : ∀ D ∈ ds, D ≠ b := fun D hD e => by
  have h1 := (h.2 D hD).2
  rw [e] at h1
  unfold World.cell? at hc
  dsimp only at hc
  rw [h1] at hc
  simp at hc
theorem Mrk.set {ds : List Nat} {n0 : Nat} {W : World} (h : Mrk ds n0 W) {b o : Nat} {v : Value} (hc : W.cell? ⟨b, o, none⟩ = some v) (u : Value) : Mrk ds n0 (W.setCell ⟨b, o, none⟩ u) :=
  ⟨h.1, fun D hD => ⟨(h.2 D hD).1, (heap_set (h.ne hc D hD)).trans (h.2 D hD).2⟩⟩
theorem Mrk.own {ds : List Nat} {n0 B : Nat} {W W' : World} {row : Option Nat} (hg : W.grownBy W' row) (hr : ∀ r, row = some r → B ≤ r ∧ ∃ o : Obj, W.heap[r]? = some o ∧ o.isCells = false) (hB : ∀ D ∈ ds, D < B) (h : Mrk ds n0 W) : Mrk ds n0 W' :=
  ⟨h.1, fun D hD => ⟨(h.2 D hD).1, (hg.block D (h.lt D hD) (fun e => by have := (hr D e.symm).1; have := hB D hD; omega)).trans (h.2 D hD).2⟩⟩
theorem Mrk.cons {ds : List Nat} {n0 D : Nat} {W : World} (h : Mrk ds n0 W) (h1 : n0 ≤ D) (h2 : W.heap[D]? = some (.deferred (some []))) (h3 : ∀ E ∈ ds, E < D) : Mrk (D :: ds) n0 W :=
  ⟨List.nodup_cons.2 ⟨fun hm => by have := h3 D hm; omega, h.1⟩, fun E hE => by
    rcases List.mem_cons.1 hE with rfl | hE
    · exact ⟨h1, h2⟩
    · exact h.2 E hE⟩
/-- a function leaves past its marks -/
theorem leaves_marks {F : Fence} {n : Nat} {P : Program} {fn : Func} {tmps : Array Value} {R : Ending → World → Prop} {n0 : Nat} {w : World} : ∀ (ds : List Nat) (W : World), Mrk ds n0 W → Below n0 w W →
    (∀ W', Below n0 w W' → (∀ b, b ∉ ds → W'.heap[b]? = W.heap[b]?) → W.heap.size ≤ W'.heap.size → ∃ v, (results fn tmps).run P W' = .ok v W' ∧ R (.returned v) W') → LeavesInM F n P fn tmps R (ds.map mark) .returning W
  | [], W, _, hb, h => by
    obtain ⟨v, h1, h2⟩ := h W hb (fun _ _ => rfl) (Nat.le_refl _)
    exact ⟨v, h1, h2⟩
  | D :: ds, W, hm, hb, h => by
    have hD := hm.2 D (List.mem_cons_self ..)
    have hpb : ∀ b, b ≠ D → (W.putObj D (.deferred none)).heap[b]? = W.heap[b]? := fun b hb => World.putObj_heap_other (by omega)
    have hn := List.nodup_cons.1 hm.1
    refine ⟨by simp, .inl ⟨_, _, rfl, run_takeDeferred hD.2, ?_⟩⟩
    refine leaves_marks (w := w) ds _ ⟨hn.2, fun E hE => ⟨(hm.2 E (List.mem_cons_of_mem _ hE)).1, (hpb E (fun e => hn.1 (e ▸ hE))).trans (hm.2 E (List.mem_cons_of_mem _ hE)).2⟩⟩ ?_ ?_
    · exact ⟨hb.os, hb.tape, hb.output, by simpa using hb.size, fun k hk => (hpb k (by have := hD.1; omega)).trans (hb.block k hk)⟩
    · intro W' h1 h2 h3
      refine h W' h1 (fun b hb => ?_) (by simpa using h3)
      rw [List.mem_cons, not_or] at hb
      exact (h2 b hb.2).trans (hpb b hb.1)
/-- the memory of first -/
structure FiR (w : World) (g b4 hb : Nat) (F : Option Addr) (nb cF cl : Nat) (wt : List Int) (fk : List Nat) (ow : List Int) (W : World) : Prop where
  (rb : RowC W w.heap.size (hrL F nb cF cl wt)) (rg : RowC W g (fk.map uV)) (rh : RowC W b4 [.slice (some ⟨hb, 0, none⟩) nb nb]) (hh : HasR W (some ⟨hb, 0, none⟩) nb nb hb 0 ow)
  (k : Kept w W) (lg : g < W.heap.size) (n1 : hb ≠ g) (n2 : hb ≠ b4) (n3 : hb ≠ w.heap.size) (n4 : w.heap.size ≤ hb)
theorem FiR.kept {w W W' : World} {g b4 hb : Nat} {F : Option Addr} {nb cF cl : Nat} {wt : List Int} {fk : List Nat} {ow : List Int} (h : FiR w g b4 hb F nb cF cl wt fk ow W) (hk : Kept W W') : FiR w g b4 hb F nb cF cl wt fk ow W' :=
  ⟨h.rb.kept hk, h.rg.kept hk, h.rh.kept hk, h.hh.kept hk, h.k.trans hk, Nat.lt_of_lt_of_le h.lg hk.size, h.n1, h.n2, h.n3, h.n4⟩
theorem FiR.drew {w W : World} {g b4 hb : Nat} {F : Option Addr} {nb cF cl : Nat} {wt : List Int} {fk : List Nat} {ow : List Int} (h : FiR w g b4 hb F nb cF cl wt fk ow W) : FiR w g b4 hb F nb cF cl wt fk ow W.drew :=
  h.kept ((Kept.refl W).drew)
theorem FiR.own {w W W' : World} {B : Nat} {row : Option Nat} (hg : W.grownBy W' row) (hr : ∀ r, row = some r → B ≤ r ∧ ∃ o : Obj, W.heap[r]? = some o ∧ o.isCells = false) (hB : w.heap.size ≤ B) {g b4 hb : Nat} {F : Option Addr} {nb cF cl : Nat} {wt : List Int} {fk : List Nat} {ow : List Int} (h : FiR w g b4 hb F nb cF cl wt fk ow W) : FiR w g b4 hb F nb cF cl wt fk ow W' :=
  ⟨own_rowc hg hr h.rb, own_rowc hg hr h.rg, own_rowc hg hr h.rh, h.hh.own hg hr, h.k.grown hg (fun k e => Nat.le_trans hB (hr k e).1), Nat.lt_of_lt_of_le h.lg hg.size, h.n1, h.n2, h.n3, h.n4⟩
theorem FiR.setG {w W : World} {g b4 hb : Nat} {F : Option Addr} {nb cF cl : Nat} {wt : List Int} {fk : List Nat} {ow : List Int} (h : FiR w g b4 hb F nb cF cl wt fk ow W) (h1 : g ≠ w.heap.size) (h2 : g ≠ b4) (h3 : w.heap.size ≤ g) {k : Nat} (hk : k < fk.length) (f : Nat) : FiR w g b4 hb F nb cF cl wt (fk.set k f) ow (W.setCell ⟨g, k, none⟩ (uV f)) :=
  ⟨h.rb.far (Ne.symm h1) _, by rw [List.map_set]; exact h.rg.put (by simpa using hk) _, h.rh.far (Ne.symm h2) _, hasr_heap (heap_set (by simpa using h.n1)) (by rw [size_set]; exact Nat.le_refl _) h.hh, h.k.setCell (p := ⟨g, k, none⟩) h3 _, by rw [size_set]; exact h.lg, h.n1, h.n2, h.n3, h.n4⟩
theorem FiR.setH {w W : World} {g b4 hb hb' : Nat} {F : Option Addr} {nb cF cl : Nat} {wt : List Int} {fk : List Nat} {ow ow' : List Int} (h : FiR w g b4 hb F nb cF cl wt fk ow W) (h1 : b4 ≠ w.heap.size) (h2 : g ≠ b4) (h3 : w.heap.size ≤ b4) (hh : HasR W (some ⟨hb', 0, none⟩) nb nb hb' 0 ow') (n1 : hb' ≠ g) (n2 : hb' ≠ b4) (n3 : hb' ≠ w.heap.size) (n4 : w.heap.size ≤ hb') :
    FiR w g b4 hb' F nb cF cl wt fk ow' (W.setCell ⟨b4, 0, none⟩ (.slice (some ⟨hb', 0, none⟩) nb nb)) :=
  ⟨h.rb.far (Ne.symm h1) _, h.rg.far h2 _, h.rh.put (j := 0) (by simp) _, hasr_heap (heap_set (by simpa using n2)) (by rw [size_set]; exact Nat.le_refl _) hh, h.k.setCell (p := ⟨b4, 0, none⟩) h3 _, by rw [size_set]; exact h.lg, n1, n2, n3, n4⟩
theorem FiR.fit {w W : World} {g b4 hb : Nat} {F : Option Addr} {nb cF cl : Nat} {wt : List Int} {fk : List Nat} {ow : List Int} (h : FiR w g b4 hb F nb cF cl wt fk ow W) (hl : fk.length = nb) (h60 : nb ≤ 60) (hc : nb ≤ cF) (hm : cF ≤ 9223372036854775807) (hf : ∀ f ∈ fk, f < 2 ^ 64) (hF : 0 < nb → F = some ⟨g, 0, none⟩) : FitR W F nb cF g 0 fk :=
  ⟨hl, h60, hc, hm, hf, hF, h.lg, fun i f hi => by
    rw [Nat.zero_add]
    exact (h.rg i (uV f) (by rw [List.getElem?_map, hi]; rfl)).1⟩
theorem curF_bd {fits : List Nat} {p : List Int} (ho : OkP fits p) (hf : ∀ f ∈ fits, f < 2 ^ 64) : ∀ f ∈ curF fits p, f < 2 ^ 64 := fun f h => by
  unfold curF at h
  rcases List.mem_append.1 h with h | h
  · obtain ⟨x, hx, rfl⟩ := List.mem_map.1 h
    obtain ⟨j, hj⟩ := List.getElem?_of_mem hx
    unfold bitO
    split
    · decide
    · rcases ho j x hj with h0 | ⟨h1, h2, _⟩
      · contradiction
      · exact Nat.pow_lt_pow_right (by omega) (by omega)
  · exact hf f (List.mem_of_mem_drop h)
theorem OkP.snoc {fits : List Nat} {p : List Int} (h : OkP fits p) {x : Int} (hx : x = 0 ∨ (1 ≤ x ∧ x ≤ 40 ∧ ∃ f, fits[p.length]? = some f ∧ f.testBit x.toNat = true)) : OkP fits (p ++ [x]) := fun j y hy => by
  rcases Nat.lt_or_ge j p.length with h1 | h1
  · rw [List.getElem?_append_left h1] at hy
    exact h j y hy
  · rw [List.getElem?_append_right h1] at hy
    have hj : j - p.length = 0 := by
      have := (List.getElem?_eq_some_iff.1 hy).1
      simp at this; omega
    rw [hj] at hy
    simp at hy
    subst hy
    have hj2 : j = p.length := by omega
    subst hj2
    exact hx
theorem bitsK_lt2 (s k : Nat) : (bitsK s k).Pairwise (· < ·) := by
  unfold bitsK
  exact List.Pairwise.sublist List.filter_sublist List.pairwise_lt_range
theorem Coh.before {s : Nat} {pre : List {x : Nat // s.testBit x = true}} {x : {x : Nat // s.testBit x = true}} (h : Coh s (pre ++ [x])) {y : Nat} (hy : s.testBit y = true) (hx : y < x.1) (h64 : y < 64) : y ∈ pre.map (·.1) := by
  unfold Coh at h
  obtain ⟨t, ht⟩ := h
  have hm : y ∈ bitsK s 64 := by
    unfold bitsK
    rw [List.mem_filter, List.mem_range]
    exact ⟨h64, hy⟩
  have hp := bitsK_lt2 s 64
  rw [← ht] at hm hp
  rw [List.map_append, List.map_cons, List.map_nil] at hm hp
  rcases List.mem_append.1 hm with h1 | h1
  · rcases List.mem_append.1 h1 with h2 | h2
    · exact h2
    · simp at h2; omega
  · have := (List.pairwise_append.1 hp).2.2 x.1 (by simp) y h1
    omega
/-- between two owners that are tried for a beast; when one has been found -/
def FjI (w : World) (g b4 hb : Nat) (F : Option Addr) (nb cF cl : Nat) (wt : List Int) (fits : List Nat) (p ow : List Int) (k bk : Nat) (ds : List Nat) (f : Nat) (pre : List {x : Nat // f.testBit x = true}) (W : World) : Prop :=
  (∃ v, FiR w g b4 hb F nb cF cl wt ((curF fits p).set k v) ow W) ∧ Mrk ds w.heap.size W ∧ W.cell? ⟨bk, 0, none⟩ = some (.int .i64 (k : Int)) ∧ (Coh f pre → ∀ y : Nat, y ∈ pre.map (·.1) → ∀ ow', ¬ MetA (curF fits (p ++ [(y : Int)])) cl wt ow')
theorem FjI.own (w : World) (g b4 hb : Nat) (F : Option Addr) (nb cF cl : Nat) (wt : List Int) (fits : List Nat) (p ow : List Int) (k bk : Nat) (ds : List Nat) (f B : Nat) (hB : w.heap.size ≤ B) (hD : ∀ D ∈ ds, D < B) : OwnFrom B (FjI w g b4 hb F nb cF cl wt fits p ow k bk ds f) := by
  rintro pre W W' row ⟨⟨v, h1⟩, h2, h3, h4⟩ hg hr
  exact ⟨⟨v, h1.own hg hr hB⟩, h2.own hg hr hD, (cell_heap (own_block hg hr h3)).trans h3, h4⟩
def FjX (w : World) (g b4 : Nat) (F : Option Addr) (nb cF cl : Nat) (wt : List Int) (fits : List Nat) (p : List Int) (ds : List Nat) (f : Nat) (c : Code) (pre : List {x : Nat // f.testBit x = true}) (W : World) : Prop :=
  c = .exit 1 ∧ (Coh f pre → ∃ (o : Nat) (ow2 : List Int) (hb2 : Nat), FiR w g b4 hb2 F nb cF cl wt (curF fits (p ++ [(o : Int)])) ow2 W ∧ FsI fits cl wt (p ++ [(o : Int)]) ow2) ∧ Mrk ds w.heap.size W ∧ Kept w W
theorem FjX.own (w : World) (g b4 : Nat) (F : Option Addr) (nb cF cl : Nat) (wt : List Int) (fits : List Nat) (p : List Int) (ds : List Nat) (f : Nat) (c : Code) (B : Nat) (hB : w.heap.size ≤ B) (hD : ∀ D ∈ ds, D < B) : OwnFrom B (FjX w g b4 F nb cF cl wt fits p ds f c) := by
  rintro pre W W' row ⟨h1, h2, h3, h4⟩ hg hr
  exact ⟨h1, fun hc => by obtain ⟨o, ow2, hb2, h5, h6⟩ := h2 hc; exact ⟨o, ow2, hb2, h5.own hg hr hB, h6⟩, h3.own hg hr hD, h4.grown hg (fun k e => Nat.le_trans hB (hr k e).1)⟩
def FiQ (w : World) (g b4 hb : Nat) (F : Option Addr) (nb cF cl : Nat) (wt : List Int) (fits : List Nat) (k : Nat) (p ow : List Int) (ds : List Nat) (W : World) : Prop :=
  k ≤ nb ∧ p.length = k ∧ FiR w g b4 hb F nb cF cl wt (curF fits p) ow W ∧ FsI fits cl wt p ow ∧ Mrk ds w.heap.size W
def FiP (w : World) (fits : List Nat) (cl nb : Nat) (wt : List Int) (e : Ending) (w' : World) : Prop :=
  ((∃ hb ow, e = .returned (.tuple #[.slice (some ⟨hb, 0, none⟩) nb nb, .bool true]) ∧ HasR w' (some ⟨hb, 0, none⟩) nb nb hb 0 ow ∧ FirstA fits cl wt ow ∧ w.heap.size ≤ hb) ∨ (e = .returned (.tuple #[.slice none 0 0, .bool false]) ∧ ShA fits cl wt)) ∧ Kept w w'
set_option maxRecDepth 100000 in
set_option maxHeartbeats 3200000 in
theorem first_any (F : Option Addr) (nb cF fb fo cl : Nat) (wt : List Int) (fits : List Nat) (w : World) (hf : FitR w F nb cF fb fo fits) (hw : wt.length = 41) (hwb : ∀ o, 0 ≤ wq wt o ∧ wq wt o ≤ 60) (hcl : cl < 2 ^ 41) (hc0 : cl.testBit 0 = false) (hE : EnvT w) (hfc : ∀ f ∈ fits, ∀ q, f.testBit q = true → cl.testBit q = true) :
    Calls Tryz.prog 115 #[.agg (hrL F nb cF cl wt).toArray] w (FiP w fits cl nb wt) := by
  have HF := Lib.hid hf
  have h60 := hf.sz
  have hcf := hf.nc
  have hcm := hf.cm
  have hi : (Tryz.prog.info? 153).map (·.size) = some 43 := by kernel_rfl
  obtain ⟨W1, hW1⟩ : ∃ W1, W1 = w.alloc (.cells (hrL F nb cF cl wt).toArray 153) := ⟨_, rfl⟩
  have k1 : Kept w W1 := by rw [hW1]; exact (Kept.refl w).alloc _
  have z1 : W1.heap.size = w.heap.size + 1 := by rw [hW1]; simp
  have r1 : RowC W1 w.heap.size (hrL F nb cF cl wt) := by rw [hW1]; exact RowC.new w _ 153
  have HRG : RowKit.Hid (W1.rangeAt w.heap.size 0 (hrL F nb cF cl wt)) := Lib.hid (fun j v hv => by rw [Nat.zero_add]; exact (r1 j v hv).1)
  have HSZ : RowKit.Hid ((Tryz.prog.info? 153).map (·.size) = some (hrL F nb cF cl wt).length) := Lib.hid (by rw [hi]; simp [hrL, hw])
  have HM1 := Lib.hid (meet_any F nb cF fb fo cl wt fits W1 (hf.kept k1) hw hwb hcl hc0 (hE.kept k1))
  have R1 := Lib.hid r1
  have HW1 := Lib.hid hW1
  have HK1 := Lib.hid k1
  clear hf hW1 k1 r1
  refine (callsIn_wide (n := 8)).1 ?_
  refine callsIn_of_wp_marks Tryz.func115 rfl trivial ?_ rfl
  simp only [Tryz.ntmps115, List.size_toArray, List.length_cons, List.length_nil, Nat.reduceAdd, Nat.reduceSub, Array.replicate_succ, Array.replicate_zero, List.push_toArray, List.append_toArray, List.nil_append, List.cons_append]
  refine wpIn_wide.2 ?_
  go_upto_region 1 with (fail)
  rw [← HW1.out]
  refine wp_scope_straight ?_
  go_wp2_with (first | (refine wpList_load_mid rfl 153 (.tmp 1) rfl w.heap.size 0 rfl (hrL F nb cF cl wt) _ HRG.out Tryz.underlying153 rfl HSZ.out ?_) | fail)
  refine HM1.out.mono ?_
  rintro e w2 ⟨⟨hb, ow, rfl, hh, hmt, hle⟩ | ⟨rfl, hsh⟩, hk2⟩
  rotate_left
  · have HSH := Lib.hid hsh
    have HKE := Lib.hid (HK1.out.trans hk2)
    clear hsh hk2
    go_wp2_with fail
    exact ⟨_, results_tmp2 rfl _ _ _, .inr ⟨rfl, HSH.out⟩, HKE.out.alloc _⟩
  have HR1 := Lib.hid (R1.out.kept hk2)
  have HH := Lib.hid hh
  have HMT := Lib.hid hmt
  have HK2 := Lib.hid (HK1.out.trans hk2)
  have hz2 := hk2.size
  obtain ⟨W3, hW3⟩ : ∃ W3, W3 = w2.alloc (.cells #[.slice (some ⟨hb, 0, none⟩) nb nb] 43) := ⟨_, rfl⟩
  have k3 : Kept w2 W3 := by rw [hW3]; exact (Kept.refl w2).alloc _
  have hhl := hh.lt
  have z3 : W3.heap.size = w2.heap.size + 1 := by rw [hW3]; simp
  have HRB3 := Lib.hid (show RowC W3 w2.heap.size [.slice (some ⟨hb, 0, none⟩) nb nb] by rw [hW3]; exact RowC.new w2 _ 43)
  have HK3 := Lib.hid k3
  have HW3 := Lib.hid hW3
  have HCL := Lib.hid (clone_any F nb cF fb fo fits W3 (HF.out.kept (HK2.out.trans k3)))
  have a0 := ((HR1.out.kept k3) 0 _ rfl).1
  have la := cell_lt a0
  clear hh hmt hk2 hW3 k3 HM1
  go_upto_region 4 with (fail)
  rw [← HW3.out]
  go_wp2_with fail
  refine HCL.out.mono ?_
  rintro e w4 ⟨⟨v, rfl, hown⟩, hk4⟩
  obtain ⟨F2, c2, g, rfl, hfit, hg0, hgz⟩ : ∃ F2 c2 g, v = .slice F2 nb c2 ∧ FitR w4 F2 nb c2 g 0 fits ∧ (0 < nb → W3.heap.size ≤ g) ∧ (nb = 0 → g = 0) := by
    have hw0 : 0 < w4.heap.size := by have := cell_lt a0; have := hk4.size; omega
    obtain ⟨F2, c2, g, e, h1, h2⟩ := own_fit hown HF.out.ln h60 HF.out.fs hw0
    by_cases hn : nb = 0
    · refine ⟨F2, c2, 0, e, ⟨h1.ln, h1.sz, h1.nc, h1.cm, h1.fs, fun h => by omega, hw0, fun i f hi => ?_⟩, fun h => by omega, fun _ => rfl⟩
      have : fits = [] := List.length_eq_zero_iff.1 (by have := HF.out.ln; omega)
      rw [this] at hi; simp at hi
    · exact ⟨F2, c2, g, e, h1, h2, fun h => absurd h hn⟩
  have HR4 := Lib.hid ((HR1.out.kept HK3.out).kept hk4)
  have b0 := (HR4.out 0 _ rfl).1
  have b1 := (HR4.out 0 _ rfl).2
  have lb := cell_lt b0
  have HOWN := Lib.hid hown
  have HK4 := Lib.hid hk4
  have HFIT := Lib.hid hfit
  have HG0 := Lib.hid hg0
  have hcf2 := hfit.nc
  have hcm2 := hfit.cm
  clear hown hk4 hfit hg0 a0 HCL
  go_wp2_with fail
  refine wp_label ?_
  go_wp2_with fail
  obtain ⟨W5, hW5⟩ : ∃ W5, W5 = w4.setCell ⟨w.heap.size, 0, none⟩ (.slice F2 nb c2) := ⟨_, rfl⟩
  have hg1 : 0 < nb → w.heap.size + 1 ≤ g := fun hn => by have := HG0.out hn; omega
  have hg2 : g ≠ w2.heap.size := by
    by_cases hn : nb = 0
    · have := hgz hn; omega
    · have := HG0.out (by omega); omega
  have hg3 : ∀ b, W1.heap.size ≤ b → b < w2.heap.size → b ≠ g := fun b h1 h2 => by
    by_cases hn : nb = 0
    · have := hgz hn; omega
    · have := HG0.out (by omega); omega
  have hb4 := cell_lt (HRB3.out 0 _ rfl).1
  have hQ0 : FiQ w g w2.heap.size hb F2 nb c2 cl wt fits 0 [] ow [] W5 := by
    have hh5 : ∀ b, b ≠ w.heap.size → W5.heap[b]? = w4.heap[b]? := fun b hb => by rw [hW5]; exact heap_set (by simpa using hb)
    refine ⟨by omega, rfl, ⟨?_, ?_, ?_, ?_, ?_, ?_, (hg3 hb hle hhl), by omega, by omega, by omega⟩, FsI.init HMT.out, ⟨List.nodup_nil, fun D hD => by cases hD⟩⟩
    · rw [hW5]; exact HR4.out.put (j := 0) (by simp [hrL]) (.slice F2 nb c2)
    · intro j v hv
      have hn : 0 < nb := by
        have h1 := (List.getElem?_eq_some_iff.1 hv).1
        rw [List.length_map, curF_len (by simp), HF.out.ln] at h1
        omega
      have hF2 := HFIT.out.fa hn
      have hr : RowC w4 g (fits.flatMap uC) := own_rowC (by have h := HOWN.out; rw [hF2] at h; exact h)
      refine rowc_heap (hh5 g (by have := hg1 hn; omega)) hr j v ?_
      rw [flat_uC]
      exact hv
    · exact rowc_heap (hh5 _ (by omega)) (HRB3.out.kept HK4.out)
    · exact hasr_heap (hh5 _ (by omega)) (by rw [hW5, size_set]; exact Nat.le_refl _) ((HH.out.kept HK3.out).kept HK4.out)
    · rw [hW5]; exact ((HK2.out.trans HK3.out).trans HK4.out).setCell (p := ⟨w.heap.size, 0, none⟩) (Nat.le_refl _) _
    · rw [hW5, size_set]; exact HFIT.out.lt
  rw [← hW5]
  refine wp_loop (fun a' W => ∃ (k : Nat) (p ow1 : List Int) (hb1 : Nat) (ds : List Nat) (u6 u7 u8 u9 u10 u11 u12 u28 u29 u30 u31 u32 u33 u34 u35 u36 u37 u38 u39 u40 u41 u42 u43 u44 u45 u46 u47 u48 u49 u50 u51 u52 u53 u54 u55 u56 u57 u58 u59 : Value), FiQ w g w2.heap.size hb1 F2 nb c2 cl wt fits k p ow1 ds W ∧ a' = { tmps := #[.agg (hrL F nb cF cl wt).toArray, .pointer (some ⟨w.heap.size, 0, none⟩), .slice none 0 0, .bool false, .pointer (some ⟨w2.heap.size, 0, none⟩), .bool true, u6, u7, u8, u9, u10, u11, u12, .tuple #[.slice (some ⟨hb, 0, none⟩) nb nb, .bool true], .agg (hrL F nb cF cl wt).toArray, .tuple #[.slice (some ⟨hb, 0, none⟩) nb nb, .bool true], .slice (some ⟨hb, 0, none⟩) nb nb, .bool true, .bool true, .bool false, .pointer (some ⟨w.heap.size, 0, none⟩), .slice F nb cF, .slice F2 nb c2, .pointer (some ⟨w.heap.size, 0, none⟩), .pointer (some ⟨w.heap.size, 0, none⟩), .slice F2 nb c2, .int .i64 (nb : Int), .int .i64 (k : Int), u28, u29, u30, u31, u32, u33, u34, u35, u36, u37, u38, u39, u40, u41, u42, u43, u44, u45, u46, u47, u48, u49, u50, u51, u52, u53, u54, u55, u56, u57, u58, u59, undef], defers := ds.map mark }) (fun a' _ => nb - (intOf (a'.tmps.getD 27 undef)).toNat) ?_ ?_
  · refine ⟨0, [], ow, hb, [], _, _, _, _, _, _, _, _, _, _, _, _, _, _, _, _, _, _, _, _, _, _, _, _, _, _, _, _, _, _, _, _, _, _, _, _, _, _, _, hQ0, rfl⟩
  · rintro a' wr ⟨k, p, ow1, hb1, ds, u6, u7, u8, u9, u10, u11, u12, u28, u29, u30, u31, u32, u33, u34, u35, u36, u37, u38, u39, u40, u41, u42, u43, u44, u45, u46, u47, u48, u49, u50, u51, u52, u53, u54, u55, u56, u57, u58, u59, ⟨hk, hp, hR, hS, hM⟩, rfl⟩
    have HR := Lib.hid hR
    have HS := Lib.hid hS
    have HM := Lib.hid hM
    have c4 := (hR.rh 0 _ rfl).1
    have l4 := cell_lt c4
    have lgg := hR.lg
    clear hR hS hM hQ0 hW5
    by_cases hlt : k < nb
    · have hnb : 0 < nb := by omega
      obtain rfl : F2 = some ⟨g, 0, none⟩ := HFIT.out.fa hnb
      obtain ⟨f, hfk⟩ : ∃ f, fits[k]? = some f := ⟨_, List.getElem?_eq_getElem (by rw [HF.out.ln]; exact hlt)⟩
      have hck : (curF fits p)[k]? = some f := by rw [curF_ge (by omega)]; exact hfk
      have hcl2 : (curF fits p).length = nb := by rw [curF_len (by rw [hp, HF.out.ln]; exact hk), HF.out.ln]
      have cg := HR.out.rg k (uV f) (by rw [List.getElem?_map, hck]; rfl)
      have cg1 := cg.1
      have cg2 := cg.2
      unfold uV at cg1
      have cb := (HR.out.rb 0 _ rfl).1
      have lcb := cell_lt cb
      have HFK := Lib.hid hfk
      have HCL2 := Lib.hid hcl2
      have hgH := hg1 hnb
      have HP := Lib.hid hp
      clear cg hck hfk hcl2 hp
      go_upto_region 9 with (fail)
      obtain ⟨W6, hW6⟩ : ∃ W6, W6 = (wr.setCell ⟨g, k, none⟩ (.int .u64 0)).alloc (.cells #[.int .i64 (k : Int)] 3) := ⟨_, rfl⟩
      have z6 : W6.heap.size = wr.heap.size + 1 := by rw [hW6]; simp [size_set]
      have hp := HP.out
      have hR6 : FiR w g w2.heap.size hb1 (some ⟨g, 0, none⟩) nb c2 cl wt (curF fits (p ++ [0])) ow1 W6 := by
        have h := HR.out.setG (by omega) hg2 (by omega) (k := k) (by rw [HCL2.out]; exact hlt) 0
        have e : (curF fits p).set k 0 = curF fits (p ++ [0]) := by
          have := curF_snoc (fits := fits) (p := p) (x := 0) (by rw [hp, HF.out.ln]; exact hlt)
          rw [hp] at this
          exact this
        rw [e] at h
        rw [hW6]
        exact h.kept ((Kept.refl _).alloc _)
      have hM6 : Mrk ds w.heap.size W6 := by rw [hW6]; exact (HM.out.set cg1 _).kept ((Kept.refl _).alloc _)
      have hc6 : W6.cell? ⟨wr.heap.size, 0, none⟩ = some (.int .i64 (k : Int)) := by
        have := (RowC.new (wr.setCell ⟨g, k, none⟩ (.int .u64 0)) [.int .i64 (k : Int)] 3 0 _ rfl).1
        rw [size_set] at this
        rw [hW6]; exact this
      have hfk2 : fits[p.length]? = some f := by rw [hp]; exact HFK.out
      have hpl : p.length < fits.length := by rw [hp, HF.out.ln]; exact hlt
      have hbd : ∀ q : List Int, OkP fits q → ∀ f ∈ curF fits q, f < 2 ^ 64 := fun q hq => curF_bd hq HF.out.fs
      have hok0 : OkP fits (p ++ [0]) := HS.out.ok.snoc (.inl rfl)
      have HM7 := Lib.hid (meet_any (some ⟨g, 0, none⟩) nb c2 g 0 cl wt (curF fits (p ++ [0])) W6 (hR6.fit (by rw [curF_len (by simp; omega), HF.out.ln]) h60 hcf2 hcm2 (hbd _ hok0) (fun _ => rfl)) hw hwb hcl hc0 (hE.kept hR6.k))
      have HRG6 : RowKit.Hid (W6.rangeAt w.heap.size 0 (hrL (some ⟨g, 0, none⟩) nb c2 cl wt)) := Lib.hid (fun j v hv => by rw [Nat.zero_add]; exact (hR6.rb j v hv).1)
      have HSZ6 : RowKit.Hid ((Tryz.prog.info? 153).map (·.size) = some (hrL (some ⟨g, 0, none⟩) nb c2 cl wt).length) := Lib.hid (by rw [hi]; simp [hrL, hw])
      have HR6 := Lib.hid hR6
      have HM6 := Lib.hid hM6
      have HW6 := Lib.hid hW6
      have HFK2 := Lib.hid hfk2
      have HBD := Lib.hid hbd
      have hk6 := HR.out.k.size
      have l4' := l4
      rw [← hW6]
      clear hW6 hR6 hM6 hfk2 hbd hok0 cg1 cg2 cb c4
      go_wp2_with (first | (refine wpList_load_mid rfl 153 (.tmp 1) rfl w.heap.size 0 rfl (hrL (some ⟨g, 0, none⟩) nb c2 cl wt) _ HRG6.out Tryz.underlying153 rfl HSZ6.out ?_) | fail)
      refine HM7.out.mono ?_
      rintro e w7 ⟨⟨hb2, ow2, rfl, hh7, hm7, hl7⟩ | ⟨rfl, hsh7⟩, hk7⟩
      · have HR7 := Lib.hid (HR6.out.kept hk7)
        have HMK7 := Lib.hid (HM6.out.kept hk7)
        have HH7 := Lib.hid hh7
        have HMT7 := Lib.hid hm7
        have c4 := (HR7.out.rh 0 _ rfl).1
        have c5 := (HR7.out.rh 0 _ rfl).2
        have l5 := cell_lt c4
        clear hh7 hm7 hk7 HM7
        go_wp2_with fail
        have hlo := HR6.out.k.size
        have hs1 := HS.out.step hpl HFK2.out (o := 0) HMT7.out (.inl rfl) (fun y h1 h2 h3 => by omega)
        refine ⟨⟨k + 1, p ++ [0], ow2, hb2, ds, _, _, _, _, _, _, _, _, _, _, _, _, _, _, _, _, _, _, _, _, _, _, _, _, _, _, _, _, _, _, _, _, _, _, _, _, _, _, _, ⟨by omega, by simp [hp], HR7.out.setH (by omega) hg2 (by omega) HH7.out (by omega) (by omega) (by omega) (by omega), hs1, HMK7.out.set c4 _⟩, by first | rfl | simp⟩, by simp [intOf]; omega⟩
      · have HNM := Lib.hid (show ∀ ow', ¬ MetA (curF fits (p ++ [0])) cl wt ow' from fun ow' hm => met_not_sh hm hsh7)
        have HR7 := Lib.hid (HR6.out.kept hk7)
        have HMK7 := Lib.hid (HM6.out.kept hk7)
        have hc7 : w7.cell? ⟨wr.heap.size, 0, none⟩ = some (.int .i64 (k : Int)) := (hk7.cells _ _ (by omega)).trans hc6
        have HEA := Lib.hid (each_any f w7)
        clear hsh7 hk7 HM7
        go_wp2_with fail
        refine HEA.out.mono ?_
        rintro e w8 ⟨rfl, rfl⟩
        obtain ⟨W8, hW8⟩ : ∃ W8, W8 = w7.alloc (.cells #[.int .u64 f] 117) := ⟨_, rfl⟩
        have k8 : Kept w7 W8 := by rw [hW8]; exact (Kept.refl w7).alloc _
        have z8 : W8.heap.size = w7.heap.size + 1 := by rw [hW8]; simp
        have cc8 : W8.cell? ⟨w7.heap.size, 0, none⟩ = some (.int .u64 f) := by rw [hW8]; exact (RowC.new w7 [.int .u64 f] 117 0 _ rfl).1
        have HR8 := Lib.hid (HR7.out.kept k8)
        have HMK8 := Lib.hid (HMK7.out.kept k8)
        have hc8 : W8.cell? ⟨wr.heap.size, 0, none⟩ = some (.int .i64 (k : Int)) := (k8.cells _ _ (cell_lt hc7)).trans hc7
        have hb8 : wr.heap.size < W8.heap.size := cell_lt hc8
        rw [← hW8]
        clear hW8 k8 z8 hc7
        go_wp2_with fail
        have hf64 : f < 2 ^ 64 := HF.out.fs f (List.mem_of_getElem? HFK.out)
        have hfcl : ∀ q, f.testBit q = true → cl.testBit q = true := hfc f (List.mem_of_getElem? HFK.out)
        have hseq := each_stopsS 7 (by omega) w7.heap.size f hf64 w hE W8 HR8.out.k cc8
        have e0 : (curF fits p).set k 0 = curF fits (p ++ [0]) := by
          have := curF_snoc (fits := fits) (p := p) (x := 0) hpl
          rw [hp] at this
          exact this
        have hI0 : FjI w g w2.heap.size hb1 (some ⟨g, 0, none⟩) nb c2 cl wt fits p ow1 k wr.heap.size ds f [] W8 := ⟨⟨0, by rw [e0]; exact HR8.out⟩, HMK8.out, hc8, fun _ y hy => by cases hy⟩
        have hdB : ∀ D ∈ ds, D < W8.heap.size := HMK8.out.lt
        have hwB : w.heap.size ≤ W8.heap.size := HR8.out.k.size
        refine (wpIn_wide (n := 8)).1 ?_
        refine wpIn_rangeFunc_ownH rfl (by omega) (gf := 200) (lb := #[.pointer (some ⟨w7.heap.size, 0, none⟩)]) rfl trivial (enters_of Tryz.func200 (by kernel_rfl) rfl)
          hseq KpB.trans (KpB.put hwB) (Below.refl _ _) (fun _ => rfl)
          (FjI w g w2.heap.size hb1 (some ⟨g, 0, none⟩) nb c2 cl wt fits p ow1 k wr.heap.size ds f) (FjX w g w2.heap.size (some ⟨g, 0, none⟩) nb c2 cl wt fits p ds f)
          (FjI.own _ _ _ _ _ _ _ _ _ _ _ _ _ _ _ _ _ hwB hdB) (fun c => FjX.own _ _ _ _ _ _ _ _ _ _ _ _ _ _ hwB hdB) hI0
          (fun x a' _ => a' = { tmps := #[.agg (hrL F nb cF cl wt).toArray, .pointer (some ⟨w.heap.size, 0, none⟩), .slice none 0 0, .bool false, .pointer (some ⟨w2.heap.size, 0, none⟩), .bool true, .pointer (some ⟨wr.heap.size, 0, none⟩), .int .u64 (f : Int), .slice none 0 0, .bool false, .int .i64 (x.1 : Int), u11, u12, .tuple #[.slice (some ⟨hb, 0, none⟩) nb nb, .bool true], .agg (hrL F nb cF cl wt).toArray, .tuple #[.slice (some ⟨hb, 0, none⟩) nb nb, .bool true], .slice (some ⟨hb, 0, none⟩) nb nb, .bool true, .bool true, .bool false, .pointer (some ⟨w.heap.size, 0, none⟩), .slice F nb cF, .slice (some ⟨g, 0, none⟩) nb c2, .pointer (some ⟨w.heap.size, 0, none⟩), .pointer (some ⟨w.heap.size, 0, none⟩), .slice (some ⟨g, 0, none⟩) nb c2, .int .i64 (nb : Int), .int .i64 (k : Int), .bool true, .int .i64 (k : Int), .pointer (some ⟨g, k, none⟩), .int .u64 (f : Int), .pointer (some ⟨w.heap.size, 0, none⟩), .slice (some ⟨g, 0, none⟩) nb c2, .int .i64 (k : Int), .pointer (some ⟨g, k, none⟩), .tuple #[.slice none 0 0, .bool false], .agg (hrL (some ⟨g, 0, none⟩) nb c2 cl wt).toArray, .tuple #[.slice none 0 0, .bool false], .slice none 0 0, .bool false, .bool false, u42, .int .u64 (f : Int), .func (.func 200) #[] #[.pointer (some ⟨w7.heap.size, 0, none⟩)], .int .i64 (x.1 : Int), u46, u47, u48, u49, u50, u51, u52, u53, u54, u55, u56, u57, u58, u59, undef], defers := [] }) (fun x a' => fun s W W' row h hg hr => h) ?assign ?body ?done ?stop
        case assign =>
          intro l pre x V K hi hK
          gi_wp2
          exact hK _ _ (KeepsFrom.refl _ _) (Below.refl _ _) hi rfl
        case body =>
          rintro l pre ⟨o, hob⟩ a' V hl2 - ⟨⟨v, hRV⟩, hMV, hbV, hall⟩ rfl hlt2
          have hclo := hfcl o hob
          have ho2 : o ≤ 40 := by
            rcases Nat.lt_or_ge o 41 with h1 | h1
            · omega
            · rw [Nat.testBit_lt_two_pow (Nat.lt_of_lt_of_le hcl (Nat.pow_le_pow_right (by omega) h1))] at hclo; cases hclo
          have ho1 : 1 ≤ o := by
            rcases Nat.eq_zero_or_pos o with rfl | h1
            · rw [hc0] at hclo; cases hclo
            · exact h1
          have hlv : ((curF fits p).set k v).length = nb := by rw [List.length_set, HCL2.out]
          have cgv := hRV.rg k (uV v) (by rw [List.getElem?_map, List.getElem?_set_self (by rw [HCL2.out]; exact hlt)]; rfl)
          have g1 := cgv.1
          have g2 := cgv.2
          have g3 := (hRV.rb 0 _ rfl).1
          have lg1 := cell_lt g1
          have lg3 := cell_lt g3
          have lg4 := cell_lt hbV
          have HJ : RowKit.Hid (∀ W, Calls Tryz.prog 108 #[.int .i64 (o : Int)] W fun e w' => e = .returned (.int .u64 ((2 : Int) ^ o)) ∧ W = w') := Lib.hid (fun W => just_any o (by omega) W)
          have HRV := Lib.hid hRV
          have HMV := Lib.hid hMV
          have HALL := Lib.hid hall
          have HG1 := Lib.hid g1
          have HBV := Lib.hid hbV
          clear hRV hMV hall hlt2 cgv hI0 hseq hclo
          dsimp only
          gi_upto_region 14 with (fail)
          gi_cut [] from 46 (fun wx => wx = (V.setCell ⟨g, k, none⟩ (.int .u64 ((2 : Int) ^ o))).drew)
          case first =>
            gi_region_with (refine ⟨trivial, (CallsIn.inRound l (callsIn_wide.2 (HJ.out _))).mono ?_⟩; rintro e w1 ⟨rfl, rfl⟩)
            all_goals gi_wp2
            all_goals gi_meet
            all_goals rfl
          case rest =>
            subst hcut
            have hpow : ((2 ^ o : Nat) : Int) = (2 : Int) ^ o := by push_cast; rfl
            obtain ⟨W9, hW9⟩ : ∃ W9, W9 = (V.setCell ⟨g, k, none⟩ (.int .u64 ((2 : Int) ^ o))).drew := ⟨_, rfl⟩
            have hR9 : FiR w g w2.heap.size hb1 (some ⟨g, 0, none⟩) nb c2 cl wt (curF fits (p ++ [(o : Int)])) ow1 W9 := by
              have h := HRV.out.setG (by omega) hg2 (by omega) (k := k) (by rw [hlv]; exact hlt) (2 ^ o)
              unfold uV at h
              rw [hpow, List.set_set] at h
              have e : (curF fits p).set k (2 ^ o) = curF fits (p ++ [(o : Int)]) := by
                have := curF_snoc (fits := fits) (p := p) (x := (o : Int)) hpl
                rw [hp] at this
                rw [← this]
                unfold bitO
                rw [if_neg (by omega), Int.toNat_natCast]
              rw [e] at h
              rw [hW9]
              exact h.drew
            have hM9 : Mrk ds w.heap.size W9 := by rw [hW9]; exact (HMV.out.set HG1.out _).drew
            have hb9 : W9.cell? ⟨wr.heap.size, 0, none⟩ = some (.int .i64 (k : Int)) := by
              rw [hW9, World.cell?_drew]
              have hne : g ≠ wr.heap.size := by omega
              exact (World.cell?_setCell_far _ _ _ _ (by simpa using hne)).trans HBV.out
            have hf9 : KeepsFrom W8.heap.size V W9 := by rw [hW9]; exact (((KeepsOthers.setCell V _ _).trans (KeepsOthers.drew _)).from _)
            have hok : OkP fits (p ++ [(o : Int)]) := HS.out.ok.snoc (.inr ⟨by omega, by omega, f, HFK2.out, by rw [Int.toNat_natCast]; exact hob⟩)
            have HM10 := Lib.hid (meet_any (some ⟨g, 0, none⟩) nb c2 g 0 cl wt (curF fits (p ++ [(o : Int)])) W9 (hR9.fit (by rw [curF_len (by simp; omega), HF.out.ln]) h60 hcf2 hcm2 (HBD.out _ hok) (fun _ => rfl)) hw hwb hcl hc0 (hE.kept hR9.k))
            have HRG9 : RowKit.Hid (W9.rangeAt w.heap.size 0 (hrL (some ⟨g, 0, none⟩) nb c2 cl wt)) := Lib.hid (fun j v hv => by rw [Nat.zero_add]; exact (hR9.rb j v hv).1)
            have HR9 := Lib.hid hR9
            have HM9 := Lib.hid hM9
            have HF9 := Lib.hid hf9
            have HB9 := Lib.hid hb9
            rw [← hW9]
            clear hW9 hR9 hM9 hf9 hb9 hok g1 g2 g3
            gi_wp2_with (first | (refine wpListIn_load_mid rfl 153 (.tmp 1) rfl w.heap.size 0 rfl (hrL (some ⟨g, 0, none⟩) nb c2 cl wt) _ HRG9.out Tryz.underlying153 rfl HSZ6.out ?_) | fail)
            refine ⟨trivial, (CallsIn.inRound l (callsIn_wide.2 HM10.out)).mono ?_⟩
            rintro e w10 ⟨⟨hb2, ow2, rfl, hh10, hm10, hl10⟩ | ⟨rfl, hsh10⟩, hk10⟩
            · have HR10 := Lib.hid (HR9.out.kept hk10)
              have HM10' := Lib.hid (HM9.out.kept hk10)
              have HF10 := Lib.hid (HF9.out.trans ⟨hk10.size, fun kk oo _ hk' _ => (hk10.block kk (Array.getElem?_eq_some_iff.1 hk').1).trans hk'⟩)
              have HH10 := Lib.hid hh10
              have HMT10 := Lib.hid hm10
              have c10 := (HR10.out.rh 0 _ rfl)
              obtain ⟨d1, d2⟩ := c10
              have l10 := cell_lt d1
              clear hh10 hm10 hk10 HM10
              gi_wp2_with fail
              have hlo := HR9.out.k.size
              have hl9 := HR9.out.lg
              have hl8 := cell_lt (HR9.out.rh 0 _ rfl).1
              refine ⟨HF10.out.trans ((KeepsOthers.setCell _ _ _).from _), rfl, fun hco => ⟨o, ow2, hb2, HR10.out.setH (by omega) hg2 (by omega) HH10.out (by omega) (by omega) (by omega) (by omega), ?_⟩, HM10'.out.set d1 _, HR10.out.k.setCell (p := ⟨w2.heap.size, 0, none⟩) (by dsimp only; omega) _⟩
              exact HS.out.step hpl HFK2.out HMT10.out (.inr ⟨ho1, ho2, hob, HNM.out⟩) (fun y h1 h2 h3 => HALL.out hco.init.1 y (hco.before h1 h3 (by omega)))
            · have HR10 := Lib.hid (HR9.out.kept hk10)
              have HM10' := Lib.hid (HM9.out.kept hk10)
              have HF10 := Lib.hid (HF9.out.trans ⟨hk10.size, fun kk oo _ hk' _ => (hk10.block kk (Array.getElem?_eq_some_iff.1 hk').1).trans hk'⟩)
              have HB10 := Lib.hid ((hk10.cells _ _ (cell_lt HB9.out)).trans HB9.out)
              have HNS := Lib.hid (show ∀ ow', ¬ MetA (curF fits (p ++ [(o : Int)])) cl wt ow' from fun ow' hm => met_not_sh hm hsh10)
              clear hk10 hsh10 HM10
              gi_wp2_with fail
              refine ⟨HF10.out, below_between HRV.out.k HR10.out.k HF10.out.size, ⟨2 ^ o, ?_⟩, HM10'.out, HB10.out, fun hco y hy => ?_⟩
              · have e : (curF fits p).set k (2 ^ o) = curF fits (p ++ [(o : Int)]) := by
                  have := curF_snoc (fits := fits) (p := p) (x := (o : Int)) hpl
                  rw [hp] at this
                  rw [← this]
                  unfold bitO
                  rw [if_neg (by omega), Int.toNat_natCast]
                rw [e]
                exact HR10.out
              · rw [List.map_append, List.map_cons, List.map_nil] at hy
                rcases List.mem_append.1 hy with h1 | h1
                · exact HALL.out hco.init.1 y h1
                · simp at h1
                  subst h1
                  exact HNS.out
        case done =>
          rintro D ys V hD rfl ⟨_, _, _, hall⟩ hK
          refine (HS.out.none hpl HFK2.out HNM.out fun y h1 h2 h3 => ?_).elim
          refine hall (Coh.pre (List.prefix_refl _)) y ?_
          rw [bitsS_map]
          unfold bitsK
          rw [List.mem_filter, List.mem_range]
          exact ⟨by omega, h1⟩
        case stop =>
          rintro D c pre V hD hp9 ⟨rfl, hfin, hmk, hkv⟩ hK
          obtain ⟨o, ow2, hb2, hR9, hS9⟩ := hfin (Coh.pre hp9)
          gi_wp2
          go_wp2
          exact ⟨⟨k + 1, p ++ [(o : Int)], ow2, hb2, D :: ds, _, _, _, _, _, _, _, _, _, _, _, _, _, _, _, _, _, _, _, _, _, _, _, _, _, _, _, _, _, _, _, _, _, _, _, _, _, _, _, ⟨by omega, by simp [hp], hR9, hS9, hmk.cons (by omega) hK (fun E hE => by have := hdB E hE; omega)⟩, by first | rfl | simp⟩, by simp [intOf]; omega⟩
    · obtain rfl : k = nb := by omega
      go_wp2_with fail
      refine leaves_marks (w := w) ds _ HM.out HR.out.k ?_
      intro W' q1 q2 q3
      refine ⟨_, results_tmp2 rfl _ _ _, .inl ⟨hb1, ow1, rfl, ?_, HS.out.done (by rw [hp, HF.out.ln]), HR.out.n4⟩, q1⟩
      have hh := HR.out.hh
      exact ⟨hh.ln, hh.nc, hh.cm, hh.ha, Nat.lt_of_lt_of_le hh.lt q3, fun i x hi => by
        have e := q2 hb1 (fun hm => HM.out.ne (hh.rh i x hi).1 hb1 hm rfl)
        exact ⟨(cell_heap e).trans (hh.rh i x hi).1, (frozen_heap e).trans (hh.rh i x hi).2⟩⟩
end Go.Proofs.YtologmoanaccpaaGreatDoor

namespace Go.Proofs.YtologmoanaccpaaGreatDoor
set_option linter.all false
open Go.RowKit Go.Shelf

def offN (f o : Nat) : Nat := f &&& (18446744073709551615 - 2 ^ o)
theorem offN_bit {f o : Nat} (hf : f < 2 ^ 64) (ho : o < 64) (q : Nat) : (offN f o).testBit q = (f.testBit q && (q != o)) := by
  have h1 : (2 : Nat) ^ o < 2 ^ 64 := Nat.pow_lt_pow_right (by omega) ho
  have h2 : 18446744073709551615 - 2 ^ o = 2 ^ 64 - (2 ^ o + 1) := by omega
  unfold offN
  rw [Nat.testBit_and, h2, Nat.testBit_two_pow_sub_succ h1, Nat.testBit_two_pow]
  by_cases hq : q < 64
  · by_cases e : o = q
    · subst e; simp
    · have e2 : q ≠ o := fun h => e h.symm
      simp [hq, e, e2]
  · rw [Nat.testBit_lt_two_pow (Nat.lt_of_lt_of_le hf (Nat.pow_le_pow_right (by omega) (by omega)))]
    simp
theorem offN_lt {f o : Nat} (hf : f < 2 ^ 64) : offN f o < 2 ^ 64 := Nat.lt_of_le_of_lt Nat.and_le_left hf
theorem off_num {f o : Nat} (hf : f < 2 ^ 64) (ho : o ≤ 60) : bits .andNot .u64 (f : Int) ((2 : Int) ^ o) = ((offN f o : Nat) : Int) := by
  have h1 : (2 : Nat) ^ o < 2 ^ 64 := Nat.pow_lt_pow_right (by omega) (by omega)
  have hp : (2 : Int) ^ o = ((2 ^ o : Nat) : Int) := by push_cast; rfl
  unfold offN
  rw [hp]
  generalize (2 : Nat) ^ o = p at h1
  rw [u64_andNot _ _ (by omega) (by omega) (by omega) (by omega), Int.toNat_natCast, Int.toNat_natCast]
def CerP (w : World) (fits : List Nat) (cl : Nat) (wt : List Int) (e : Ending) (w' : World) : Prop :=
  (∃ b : Bool, e = .returned (.bool b) ∧ (b = true → ShA fits cl wt) ∧ (b = false → ∃ ow, MetA fits cl wt ow)) ∧ Kept w w'
set_option maxRecDepth 100000 in
set_option maxHeartbeats 3200000 in
theorem certain_any (F : Option Addr) (nb cF fb fo cl : Nat) (wt : List Int) (fits : List Nat) (w : World) (hf : FitR w F nb cF fb fo fits) (hw : wt.length = 41) (hwb : ∀ o, 0 ≤ wq wt o ∧ wq wt o ≤ 60) (hcl : cl < 2 ^ 41) (hc0 : cl.testBit 0 = false) (hE : EnvT w)
    (k o f : Nat) (hk : k < nb) (ho1 : 1 ≤ o) (ho2 : o ≤ 40) (hfk : fits[k]? = some f) :
    Calls Tryz.prog 125 #[.agg (hrL F nb cF cl wt).toArray, .int .i64 (k : Int), .int .i64 (o : Int)] w (CerP w (fits.set k (offN f o)) cl wt) := by
  have HF := Lib.hid hf
  have h60 := hf.sz
  have hcf := hf.nc
  have hcm := hf.cm
  have hi : (Tryz.prog.info? 153).map (·.size) = some 43 := by kernel_rfl
  obtain ⟨W1, hW1⟩ : ∃ W1, W1 = w.alloc (.cells (hrL F nb cF cl wt).toArray 153) := ⟨_, rfl⟩
  have k1 : Kept w W1 := by rw [hW1]; exact (Kept.refl w).alloc _
  have z1 : W1.heap.size = w.heap.size + 1 := by rw [hW1]; simp
  have r1 : RowC W1 w.heap.size (hrL F nb cF cl wt) := by rw [hW1]; exact RowC.new w _ 153
  have HCL := Lib.hid (clone_any F nb cF fb fo fits W1 (HF.out.kept k1))
  have HR1 := Lib.hid r1
  have HW1 := Lib.hid hW1
  have HK1 := Lib.hid k1
  have HFK := Lib.hid hfk
  have hf64 : f < 2 ^ 64 := hf.fs f (List.mem_of_getElem? hfk)
  have a0 := (r1 0 _ rfl).1
  have la := cell_lt a0
  clear hf hW1 k1 r1 hfk
  go_enter Tryz.func125, Tryz.ntmps125
  go_upto_region 1 with (fail)
  rw [← HW1.out]
  go_wp2_with fail
  refine HCL.out.mono ?_
  rintro e w4 ⟨⟨v, rfl, hown⟩, hk4⟩
  obtain ⟨F2, c2, g, rfl, hfit, hg0⟩ : ∃ F2 c2 g, v = .slice F2 nb c2 ∧ FitR w4 F2 nb c2 g 0 fits ∧ (0 < nb → W1.heap.size ≤ g) := by
    have hw0 : 0 < w4.heap.size := by have := hk4.size; omega
    obtain ⟨F2, c2, g, e, h1, h2⟩ := own_fit hown HF.out.ln h60 HF.out.fs hw0
    exact ⟨F2, c2, g, e, h1, h2⟩
  obtain rfl : F2 = some ⟨g, 0, none⟩ := hfit.fa (by omega)
  have HR4 := Lib.hid (HR1.out.kept hk4)
  have b0 := (HR4.out 0 _ rfl).1
  have b1 := (HR4.out 0 _ rfl).2
  have lb := cell_lt b0
  have hr4 : RowC w4 g (fits.flatMap uC) := own_rowC hown
  have HK4 := Lib.hid (HK1.out.trans hk4)
  have HG0 := Lib.hid (hg0 (by omega))
  have hcf2 := hfit.nc
  have hcm2 := hfit.cm
  have hlg := hfit.lt
  have HFIT := Lib.hid hfit
  have HG4 := Lib.hid hr4
  clear hown hk4 hfit hg0 a0 la HCL hr4
  go_upto_region 2 with (fail)
  obtain ⟨W5, hW5⟩ : ∃ W5, W5 = w4.setCell ⟨w.heap.size, 0, none⟩ (.slice (some ⟨g, 0, none⟩) nb c2) := ⟨_, rfl⟩
  rw [← hW5]
  have hgg := HG0.out
  have hr5 : RowC W5 w.heap.size (hrL (some ⟨g, 0, none⟩) nb c2 cl wt) := by
    rw [hW5]; exact HR4.out.put (j := 0) (by simp [hrL]) _
  have hg5 : RowC W5 g (fits.flatMap uC) := by
    rw [hW5]; exact rowc_heap (heap_set (by dsimp only; omega)) HG4.out
  have hk5 : Kept w W5 := by
    rw [hW5]; exact HK4.out.setCell (p := ⟨w.heap.size, 0, none⟩) (Nat.le_refl _) _
  have hz5 : W5.heap.size = w4.heap.size := by rw [hW5, size_set]
  have HR5 := Lib.hid hr5
  have HG5 := Lib.hid hg5
  have HK5 := Lib.hid hk5
  have HJ : RowKit.Hid (∀ W, Calls Tryz.prog 108 #[.int .i64 (o : Int)] W fun e w' => e = .returned (.int .u64 ((2 : Int) ^ o)) ∧ W = w') := Lib.hid (fun W => just_any o (by omega) W)
  have q0 := (hr5 0 _ rfl).1
  obtain ⟨q1, q2⟩ := hg5 k (.int .u64 (f : Int)) (by rw [flat_uC, List.getElem?_map, HFK.out]; rfl)
  have l0 := cell_lt q0
  have l1 := cell_lt q1
  have HN : RowKit.Hid (bits .andNot .u64 (f : Int) ((2 : Int) ^ o) = ((offN f o : Nat) : Int)) := Lib.hid (off_num hf64 (by omega))
  clear hW5 hr5 hg5 hk5 b0 b1 lb
  go_cut [] from 22 (fun wx => wx = (W5.setCell ⟨g, k, none⟩ (.int .u64 ((offN f o : Nat) : Int))).drew)
  case first =>
    go_region_with (refine (HJ.out _).mono ?_; rintro e w1 ⟨rfl, rfl⟩)
    all_goals go_wp2
    all_goals go_meet
    all_goals (first | rfl | (rw [HN.out]; done) | (rw [HN.out]; rfl) | trace_state)
  case rest =>
    subst hcut
    obtain ⟨W6, hW6⟩ : ∃ W6, W6 = (W5.setCell ⟨g, k, none⟩ (.int .u64 ((offN f o : Nat) : Int))).drew := ⟨_, rfl⟩
    have hg6 : RowC W6 g ((fits.set k (offN f o)).flatMap uC) := by
      rw [hW6, flat_uC, List.map_set, ← flat_uC]
      exact (HG5.out.put (j := k) (by rw [flat_uC, List.length_map, HF.out.ln]; exact hk) (.int .u64 ((offN f o : Nat) : Int))).kept ((Kept.refl _).drew)
    have hr6 : RowC W6 w.heap.size (hrL (some ⟨g, 0, none⟩) nb c2 cl wt) := by
      rw [hW6]
      exact (HR5.out.far (by omega) _).kept ((Kept.refl _).drew)
    have hk6 : Kept w W6 := by
      rw [hW6]
      exact (HK5.out.setCell (p := ⟨g, k, none⟩) (by dsimp only; omega) _).drew
    have hfit6 : FitR W6 (some ⟨g, 0, none⟩) nb c2 g 0 (fits.set k (offN f o)) := by
      refine ⟨by rw [List.length_set, HF.out.ln], h60, hcf2, hcm2, fun x hx => ?_, fun _ => rfl, ?_, fun i x hi => ?_⟩
      · rcases List.mem_or_eq_of_mem_set hx with h | h
        · exact HF.out.fs x h
        · rw [h]; exact offN_lt hf64
      · rw [hW6, World.size_drew, size_set]; omega
      · rw [Nat.zero_add]
        exact (hg6 i (.int .u64 (x : Int)) (by rw [flat_uC, List.getElem?_map, hi]; rfl)).1
    have HM6 := Lib.hid (meet_any (some ⟨g, 0, none⟩) nb c2 g 0 cl wt (fits.set k (offN f o)) W6 hfit6 hw hwb hcl hc0 (hE.kept hk6))
    have HRG6 : RowKit.Hid (W6.rangeAt w.heap.size 0 (hrL (some ⟨g, 0, none⟩) nb c2 cl wt)) := Lib.hid (fun j v hv => by rw [Nat.zero_add]; exact (hr6 j v hv).1)
    have HSZ6 : RowKit.Hid ((Tryz.prog.info? 153).map (·.size) = some (hrL (some ⟨g, 0, none⟩) nb c2 cl wt).length) := Lib.hid (by rw [hi]; simp [hrL, hw])
    have HK6 := Lib.hid hk6
    rw [← hW6]
    clear hW6 hg6 hr6 hk6 hfit6 q0 q1 q2 l0 l1
    go_wp2_with (first | (refine wpList_load_mid rfl 153 (.tmp 3) rfl w.heap.size 0 rfl (hrL (some ⟨g, 0, none⟩) nb c2 cl wt) _ HRG6.out Tryz.underlying153 rfl HSZ6.out ?_) | fail)
    refine HM6.out.mono ?_
    rintro e w7 ⟨⟨hb2, ow2, rfl, hh7, hm7, hl7⟩ | ⟨rfl, hsh7⟩, hk7⟩
    · have HMT := Lib.hid hm7
      have HKE := Lib.hid (HK6.out.trans hk7)
      clear hh7 hm7 hk7 hl7
      go_wp2_with fail
      go_ret
      exact ⟨⟨false, rfl, (fun h => by cases h), fun _ => ⟨_, HMT.out⟩⟩, HKE.out⟩
    · have HSH := Lib.hid hsh7
      have HKE := Lib.hid (HK6.out.trans hk7)
      clear hsh7 hk7
      go_wp2_with fail
      go_ret
      exact ⟨⟨true, rfl, fun _ => HSH.out, (fun h => by cases h)⟩, HKE.out⟩
end Go.Proofs.YtologmoanaccpaaGreatDoor
