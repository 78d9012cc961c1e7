/-
  the relation of worlds, rows of cells
-/
import Derived.Test.YtologmoanaccpaaGreatDoorProg
import Derived.Below
import Derived.WalkSmall
import Derived.WalkKit
import Derived.Lib.Hide
import Derived.Deep.QuietTactic
import Derived.BigQuiet
import Derived.WalkLawsBesides
import Derived.Outline
import Derived.Deep.RegionWith
import Derived.IntWalk
import Derived.RegionDies
import Derived.Defers
import Derived.Recover
import Derived.Tactics2
import Derived.Shelf.Abstract
import Derived.Laws.AppendOwn
import Derived.OwnWalk
import Derived.Deep.AppendLies
import Derived.Deep.OwnRows
import Derived.Deep.DeepCutAuto
import Derived.Deep.RegionHeld3
import Derived.RegionTactic
import Derived.ChangeAlike
namespace Go.Proofs.YtologmoanaccpaaGreatDoor
set_option linter.all false
open Go.RowKit

def Kept (w w' : World) : Prop := Below w.heap.size w w'

theorem Kept.below {w w' : World} (h : Kept w w') : Below w.heap.size w w' := h
theorem Kept.refl (w : World) : Kept w w := Below.refl _ _
theorem Kept.alloc {w w1 : World} (h : Kept w w1) (o : Obj) : Kept w (w1.alloc o) := Below.alloc h h.size o
theorem Kept.drew {w w1 : World} (h : Kept w w1) : Kept w w1.drew := Below.drew h
theorem Kept.drewN {w w1 : World} (h : Kept w w1) (n : Nat) : Kept w (w1.drewN n) := below_drewN h n
theorem Kept.trans {a b c : World} (h : Kept a b) (k : Kept b c) : Kept a c := Below.trans h (Below.mono k h.size)
theorem Kept.setCell {w w1 : World} (h : Kept w w1) {p : Addr} (hp : w.heap.size ≤ p.block) (u : Value) : Kept w (w1.setCell p u) := Below.setCell h hp u
theorem Kept.grown {w w1 w2 : World} {row : Option Nat} (h : Kept w w1) (hg : w1.grownBy w2 row) (hr : ∀ k, row = some k → w.heap.size ≤ k) : Kept w w2 := Below.grown h hg h.size hr
theorem Kept.of_quiet {w w1 : World} (h : ∃ n, w.drewN n = w1) : Kept w w1 := by obtain ⟨n, rfl⟩ := h; exact (Kept.refl w).drewN n
theorem Kept.size {w w' : World} (h : Kept w w') : w.heap.size ≤ w'.heap.size := Below.size h
theorem Kept.cells {w w' : World} (h : Kept w w') : ∀ b o, b < w.heap.size → w'.cell? ⟨b, o, none⟩ = w.cell? ⟨b, o, none⟩ := fun b o hb => Below.cell h (p := ⟨b, o, none⟩) hb
theorem Kept.frozens {w w' : World} (h : Kept w w') : ∀ b o, b < w.heap.size → w'.frozen? ⟨b, o, none⟩ = w.frozen? ⟨b, o, none⟩ := fun b o hb => Below.frozen h (p := ⟨b, o, none⟩) hb
theorem Kept.facts {w w' : World} (h : Kept w w') : (∀ b o, b < w.heap.size → w'.cell? ⟨b, o, none⟩ = w.cell? ⟨b, o, none⟩) ∧ (∀ b o, b < w.heap.size → w'.frozen? ⟨b, o, none⟩ = w.frozen? ⟨b, o, none⟩) ∧ w.heap.size ≤ w'.heap.size := ⟨h.cells, h.frozens, h.size⟩
theorem Kept.block {w w' : World} (h : Kept w w') : ∀ k, k < w.heap.size → w'.heap[k]? = w.heap[k]? := Below.block h

theorem cell_lt {w : World} {b o : Nat} {v : Value} (h : w.cell? ⟨b, o, none⟩ = some v) : b < w.heap.size := by
  rcases Nat.lt_or_ge b w.heap.size with hlt | hge
  · exact hlt
  · simp [World.cell?, Array.getElem?_eq_none hge] at h
theorem ret_bool {a b : Bool} (h : a = b) : Ending.returned (.bool a) = Ending.returned (.bool b) := by rw [h]
theorem ret_int {k : IntKind} {a b : Int} (h : a = b) : Ending.returned (.int k a) = .returned (.int k b) := by rw [h]
theorem quiet_any {P : Program} {f : FuncId} {args : Array Value} {w : World} {n : Nat} {v : Value} (h : ∀ W : World, Calls P f args W fun e w' => e = .returned v ∧ ∃ m, W.drewN m = w') :
    Calls P f args (w.drewN n) fun e w'' => e = .returned v ∧ ∃ m, w'' = w.drewN m :=
  (h _).mono fun _ _ ⟨he, m, hm⟩ => ⟨he, n + m, by rw [← hm, World.drewN_drewN]⟩
theorem quiet_any0 {P : Program} {f : FuncId} {args : Array Value} {w : World} {v : Value} (h : ∀ W : World, Calls P f args W fun e w' => e = .returned v ∧ ∃ m, W.drewN m = w') :
    Calls P f args w fun e w'' => e = .returned v ∧ ∃ m, w'' = w.drewN m :=
  (h _).mono fun _ _ ⟨he, m, hm⟩ => ⟨he, m, hm.symm⟩

def inB (n lo hi : Int) : Bool := decide (lo ≤ n) && decide (n ≤ hi)
theorem inB_iff {n lo hi : Int} : inB n lo hi = true ↔ lo ≤ n ∧ n ≤ hi := by simp [inB]
theorem inB_not {n lo hi : Int} : inB n lo hi = false ↔ n < lo ∨ hi < n := by
  rw [Bool.eq_false_iff, Ne, inB_iff]; omega
theorem take_snoc' {α : Type} {xs : List α} {k : Nat} {x : α} (h : xs[k]? = some x) : xs.take (k + 1) = xs.take k ++ [x] := by
  rw [List.take_succ, h]; rfl
/-- block b holds the values vs, in cells that may be written -/
def RowC (W : World) (b : Nat) (vs : List Value) : Prop := ∀ j v, vs[j]? = some v → W.cell? ⟨b, j, none⟩ = some v ∧ W.frozen? ⟨b, j, none⟩ = false
theorem RowC.kept {W W' : World} {b : Nat} {vs : List Value} (h : RowC W b vs) (hk : Kept W W') : RowC W' b vs := fun j v hv => ⟨(hk.cells _ _ (cell_lt (h j v hv).1)).trans (h j v hv).1, (hk.frozens _ _ (cell_lt (h j v hv).1)).trans (h j v hv).2⟩
theorem RowC.new (W : World) (vs : List Value) (t : TypeId) : RowC (W.alloc (.cells vs.toArray t)) W.heap.size vs := fun j v hv =>
  ⟨by rw [cell_of_row _ _ _ _ _ _ (heap_alloc_new W _)]; simpa using hv, by unfold World.frozen?; rw [show (⟨W.heap.size, j, none⟩ : Addr).block = W.heap.size from rfl, heap_alloc_new W _]; simp⟩
theorem RowC.far {W : World} {b b' j : Nat} {vs : List Value} (h : RowC W b vs) (hne : b ≠ b') (u : Value) : RowC (W.setCell ⟨b', j, none⟩ u) b vs := fun i v hv =>
  ⟨by rw [World.cell?_setCell_far _ _ _ _ (by simpa using Ne.symm hne)]; exact (h i v hv).1, by rw [World.frozen?_setCell]; exact (h i v hv).2⟩
theorem RowC.put {W : World} {b j : Nat} {vs : List Value} (h : RowC W b vs) (hj : j < vs.length) (u : Value) : RowC (W.setCell ⟨b, j, none⟩ u) b (vs.set j u) := by
  intro i v hv
  have hl : i < vs.length := by have := (List.getElem?_eq_some_iff.1 hv).1; simpa using this
  have hi := h i vs[i] (List.getElem?_eq_getElem hl)
  refine ⟨?_, by rw [World.frozen?_setCell]; exact hi.2⟩
  by_cases e : j = i
  · subst e
    rw [List.getElem?_set_self hj] at hv
    cases hv
    exact World.cell?_setCell_same' _ _ _ (by rw [hi.1]; rfl)
  · rw [List.getElem?_set_ne e] at hv
    exact (World.cell?_setCell_other (w := W) (a := ⟨b, j, none⟩) (b := ⟨b, i, none⟩) (v := u) (by simpa using e)).trans (h i v hv).1
theorem RowC.drew {W : World} {b : Nat} {vs : List Value} (h : RowC W b vs) : RowC W.drew b vs := fun j v hv => h j v hv
theorem RowC.drewN {W : World} {b : Nat} {vs : List Value} (h : RowC W b vs) (q : Nat) : RowC (W.drewN q) b vs := fun j v hv => h j v hv
theorem own_base {w : World} {b b' : Nat} {e : TypeId} {s : Nat} {v : Value} {n : Nat} {ys : List Value} (h : w.ownsRow b e s v n ys) (hb : b' ≤ b) : w.ownsRow b' e s v n ys := by
  obtain ⟨h1, h2⟩ := h
  refine ⟨h1, ?_⟩
  rcases h2 with h | ⟨g, c, cur, k1, k2, k3⟩
  · exact .inl h
  · exact .inr ⟨g, c, cur, k1, by omega, k3⟩
theorem own_kept {w w' : World} {b : Nat} {e : TypeId} {s : Nat} {v : Value} {n : Nat} {ys : List Value} (h : w.ownsRow b e s v n ys) (hk : Kept w w') : w'.ownsRow b e s v n ys := by
  obtain ⟨h1, h2⟩ := h
  refine ⟨h1, ?_⟩
  rcases h2 with h | ⟨g, c, cur, k1, k2, k3, k4⟩
  · exact .inl h
  · exact .inr ⟨g, c, cur, k1, k2, (hk.block g (Array.getElem?_eq_some_iff.1 k3).1).trans k3, k4⟩
theorem addr_add (b off j : Nat) : (⟨b, off, none⟩ : Addr).add j = ⟨b, off + j, none⟩ := by
  unfold Addr.add; split <;> simp_all
theorem news_of {W : World} {cs : List Value} {t : TypeId} {m : Nat} (hm : W.heap.size = m) : ∀ j u, cs[j]? = some u → (W.alloc (.cells cs.toArray t)).cell? ((⟨m, 0, none⟩ : Addr).add j) = some u := by
  intro j u hu
  subst hm
  rw [addr_add, Nat.zero_add, cell_of_row _ _ _ _ _ _ (heap_alloc_new W _)]
  simpa using hu
theorem own_rowC {w : World} {base : Nat} {t : TypeId} {s g n c : Nat} {ys : List Value} (h : w.ownsRow base t s (.slice (some ⟨g, 0, none⟩) n c) n ys) : RowC w g ys := by
  intro j v hv
  have hj : j < n * s := by rw [← h.1]; exact (List.getElem?_eq_some_iff.1 hv).1
  refine ⟨by rw [h.cellAt j hj]; exact hv, ?_⟩
  rcases h.2 with ⟨h1, _⟩ | ⟨g', c', cur, h1, hb, hh, _⟩
  · cases h1
  · cases h1
    unfold World.frozen?
    rw [show (⟨g, j, none⟩ : Addr).block = g from rfl, hh]
    simp
/-- an own row stays when another row grows -/
theorem own_far {w w' : World} {b : Nat} {e : TypeId} {s : Nat} {v : Value} {n : Nat} {ys : List Value} {row : Option Nat} (h : w.ownsRow b e s v n ys) (hg : w.grownBy w' row) (hne : ∀ g, v.ownBlock = some g → row ≠ some g) : w'.ownsRow b e s v n ys := by
  refine ⟨h.1, ?_⟩
  rcases h.2 with h0 | ⟨g, cap, cur, hv, hb, hh, hr⟩
  · exact .inl h0
  · refine .inr ⟨g, cap, cur, hv, hb, ?_, hr⟩
    have hlt : g < w.heap.size := (Array.getElem?_eq_some_iff.1 hh).1
    rw [hg.block g hlt (by subst hv; exact fun e => hne g rfl e.symm)]
    exact hh
/-- two rows that do not meet -/
def Apart (u v : Value) : Prop := ∀ g, u.ownBlock = some g → v.ownBlock ≠ some g
theorem Apart.symm {u v : Value} (h : Apart u v) : Apart v u := fun g hv hu => h g hu hv
theorem own_lt {w : World} {b : Nat} {e : TypeId} {s : Nat} {v : Value} {n : Nat} {ys : List Value} (h : w.ownsRow b e s v n ys) {g : Nat} (hg : v.ownBlock = some g) : g < w.heap.size := by
  rcases h.2 with ⟨rfl, _⟩ | ⟨k, cap, cur, rfl, hb, hh, hr⟩
  · cases hg
  · injection hg with hg
    subst hg
    exact (Array.getElem?_eq_some_iff.1 hh).1
/-- after an append -/
theorem Apart.next {u v : Value} {g n c : Nat} {H : Nat} (h : Apart u v) (hv : ∀ k, v.ownBlock = some k → k < H) (hg : u.ownBlock = some g ∨ g = H) : Apart (.slice (some ⟨g, 0, none⟩) n c) v := by
  intro k hk hvk
  injection hk with hk
  subst hk
  rcases hg with e | e
  · exact h _ e hvk
  · have := hv _ hvk; simp at this; omega
end Go.Proofs.YtologmoanaccpaaGreatDoor
