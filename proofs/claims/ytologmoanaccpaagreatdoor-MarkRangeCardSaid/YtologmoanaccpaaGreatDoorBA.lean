/-
  the relation of worlds, rows of cells
  mark: within, isOwner, isDay, isEar, valid; Max over bytes; isClear
  mark: sets of owners as bits: just, has
  mark: marks, fades, sights in memory; every, IndexFunc, ContainsFunc
  mark: isMark, isFade, isSight; firstError
-/
import Derived.Test.YtologmoanaccpaaGreatDoorProg
import Derived.Below
import Derived.WalkSmall
import Derived.WalkKit
import Derived.Lib.Hide
import Derived.Deep.QuietTactic
import Derived.BigQuiet
import Derived.WalkLawsBesides
import Derived.Outline
import Derived.Deep.RegionWith
import Derived.IntWalk
import Derived.RegionDies
import Derived.Defers
import Derived.Recover
import Derived.Tactics2
import Derived.Shelf.Abstract
import Derived.Laws.AppendOwn
import Derived.OwnWalk
import Derived.Deep.AppendLies
import Derived.Deep.OwnRows
import Derived.Deep.DeepCutAuto
import Derived.Deep.RegionHeld3
import Derived.RegionTactic
import Derived.ChangeAlike
import Derived.Laws.BitsLemmas
import Derived.Lib.EndianBits
namespace Go.Proofs.YtologmoanaccpaaGreatDoor
set_option linter.all false
open Go.RowKit

def Kept (w w' : World) : Prop := Below w.heap.size w w'

theorem Kept.below {w w' : World} (h : Kept w w') : Below w.heap.size w w' := h
theorem Kept.refl (w : World) : Kept w w := Below.refl _ _
theorem Kept.alloc {w w1 : World} (h : Kept w w1) (o : Obj) : Kept w (w1.alloc o) := Below.alloc h h.size o
theorem Kept.drew {w w1 : World} (h : Kept w w1) : Kept w w1.drew := Below.drew h
theorem Kept.drewN {w w1 : World} (h : Kept w w1) (n : Nat) : Kept w (w1.drewN n) := below_drewN h n
theorem Kept.trans {a b c : World} (h : Kept a b) (k : Kept b c) : Kept a c := Below.trans h (Below.mono k h.size)
theorem Kept.setCell {w w1 : World} (h : Kept w w1) {p : Addr} (hp : w.heap.size ≤ p.block) (u : Value) : Kept w (w1.setCell p u) := Below.setCell h hp u
theorem Kept.grown {w w1 w2 : World} {row : Option Nat} (h : Kept w w1) (hg : w1.grownBy w2 row) (hr : ∀ k, row = some k → w.heap.size ≤ k) : Kept w w2 := Below.grown h hg h.size hr
theorem Kept.of_quiet {w w1 : World} (h : ∃ n, w.drewN n = w1) : Kept w w1 := by obtain ⟨n, rfl⟩ := h; exact (Kept.refl w).drewN n
theorem Kept.size {w w' : World} (h : Kept w w') : w.heap.size ≤ w'.heap.size := Below.size h
theorem Kept.cells {w w' : World} (h : Kept w w') : ∀ b o, b < w.heap.size → w'.cell? ⟨b, o, none⟩ = w.cell? ⟨b, o, none⟩ := fun b o hb => Below.cell h (p := ⟨b, o, none⟩) hb
theorem Kept.frozens {w w' : World} (h : Kept w w') : ∀ b o, b < w.heap.size → w'.frozen? ⟨b, o, none⟩ = w.frozen? ⟨b, o, none⟩ := fun b o hb => Below.frozen h (p := ⟨b, o, none⟩) hb
theorem Kept.facts {w w' : World} (h : Kept w w') : (∀ b o, b < w.heap.size → w'.cell? ⟨b, o, none⟩ = w.cell? ⟨b, o, none⟩) ∧ (∀ b o, b < w.heap.size → w'.frozen? ⟨b, o, none⟩ = w.frozen? ⟨b, o, none⟩) ∧ w.heap.size ≤ w'.heap.size := ⟨h.cells, h.frozens, h.size⟩
theorem Kept.block {w w' : World} (h : Kept w w') : ∀ k, k < w.heap.size → w'.heap[k]? = w.heap[k]? := Below.block h

theorem cell_lt {w : World} {b o : Nat} {v : Value} (h : w.cell? ⟨b, o, none⟩ = some v) : b < w.heap.size := by
  rcases Nat.lt_or_ge b w.heap.size with hlt | hge
  · exact hlt
  · simp [World.cell?, Array.getElem?_eq_none hge] at h
theorem ret_bool {a b : Bool} (h : a = b) : Ending.returned (.bool a) = Ending.returned (.bool b) := by rw [h]
theorem ret_int {k : IntKind} {a b : Int} (h : a = b) : Ending.returned (.int k a) = .returned (.int k b) := by rw [h]
theorem quiet_any {P : Program} {f : FuncId} {args : Array Value} {w : World} {n : Nat} {v : Value} (h : ∀ W : World, Calls P f args W fun e w' => e = .returned v ∧ ∃ m, W.drewN m = w') :
    Calls P f args (w.drewN n) fun e w'' => e = .returned v ∧ ∃ m, w'' = w.drewN m :=
  (h _).mono fun _ _ ⟨he, m, hm⟩ => ⟨he, n + m, by rw [← hm, World.drewN_drewN]⟩
theorem quiet_any0 {P : Program} {f : FuncId} {args : Array Value} {w : World} {v : Value} (h : ∀ W : World, Calls P f args W fun e w' => e = .returned v ∧ ∃ m, W.drewN m = w') :
    Calls P f args w fun e w'' => e = .returned v ∧ ∃ m, w'' = w.drewN m :=
  (h _).mono fun _ _ ⟨he, m, hm⟩ => ⟨he, m, hm.symm⟩

def inB (n lo hi : Int) : Bool := decide (lo ≤ n) && decide (n ≤ hi)
theorem inB_iff {n lo hi : Int} : inB n lo hi = true ↔ lo ≤ n ∧ n ≤ hi := by simp [inB]
theorem inB_not {n lo hi : Int} : inB n lo hi = false ↔ n < lo ∨ hi < n := by
  rw [Bool.eq_false_iff, Ne, inB_iff]; omega
theorem take_snoc' {α : Type} {xs : List α} {k : Nat} {x : α} (h : xs[k]? = some x) : xs.take (k + 1) = xs.take k ++ [x] := by
  rw [List.take_succ, h]; rfl
/-- block b holds the values vs, in cells that may be written -/
def RowC (W : World) (b : Nat) (vs : List Value) : Prop := ∀ j v, vs[j]? = some v → W.cell? ⟨b, j, none⟩ = some v ∧ W.frozen? ⟨b, j, none⟩ = false
theorem RowC.kept {W W' : World} {b : Nat} {vs : List Value} (h : RowC W b vs) (hk : Kept W W') : RowC W' b vs := fun j v hv => ⟨(hk.cells _ _ (cell_lt (h j v hv).1)).trans (h j v hv).1, (hk.frozens _ _ (cell_lt (h j v hv).1)).trans (h j v hv).2⟩
theorem RowC.new (W : World) (vs : List Value) (t : TypeId) : RowC (W.alloc (.cells vs.toArray t)) W.heap.size vs := fun j v hv =>
  ⟨by rw [cell_of_row _ _ _ _ _ _ (heap_alloc_new W _)]; simpa using hv, by unfold World.frozen?; rw [show (⟨W.heap.size, j, none⟩ : Addr).block = W.heap.size from rfl, heap_alloc_new W _]; simp⟩
theorem RowC.far {W : World} {b b' j : Nat} {vs : List Value} (h : RowC W b vs) (hne : b ≠ b') (u : Value) : RowC (W.setCell ⟨b', j, none⟩ u) b vs := fun i v hv =>
  ⟨by rw [World.cell?_setCell_far _ _ _ _ (by simpa using Ne.symm hne)]; exact (h i v hv).1, by rw [World.frozen?_setCell]; exact (h i v hv).2⟩
theorem RowC.put {W : World} {b j : Nat} {vs : List Value} (h : RowC W b vs) (hj : j < vs.length) (u : Value) : RowC (W.setCell ⟨b, j, none⟩ u) b (vs.set j u) := by
  intro i v hv
  have hl : i < vs.length := by have := (List.getElem?_eq_some_iff.1 hv).1; simpa using this
  have hi := h i vs[i] (List.getElem?_eq_getElem hl)
  refine ⟨?_, by rw [World.frozen?_setCell]; exact hi.2⟩
  by_cases e : j = i
  · subst e
    rw [List.getElem?_set_self hj] at hv
    cases hv
    exact World.cell?_setCell_same' _ _ _ (by rw [hi.1]; rfl)
  · rw [List.getElem?_set_ne e] at hv
    exact (World.cell?_setCell_other (w := W) (a := ⟨b, j, none⟩) (b := ⟨b, i, none⟩) (v := u) (by simpa using e)).trans (h i v hv).1
theorem RowC.drew {W : World} {b : Nat} {vs : List Value} (h : RowC W b vs) : RowC W.drew b vs := fun j v hv => h j v hv
theorem RowC.drewN {W : World} {b : Nat} {vs : List Value} (h : RowC W b vs) (q : Nat) : RowC (W.drewN q) b vs := fun j v hv => h j v hv
theorem own_base {w : World} {b b' : Nat} {e : TypeId} {s : Nat} {v : Value} {n : Nat} {ys : List Value} (h : w.ownsRow b e s v n ys) (hb : b' ≤ b) : w.ownsRow b' e s v n ys := by
  obtain ⟨h1, h2⟩ := h
  refine ⟨h1, ?_⟩
  rcases h2 with h | ⟨g, c, cur, k1, k2, k3⟩
  · exact .inl h
  · exact .inr ⟨g, c, cur, k1, by omega, k3⟩
theorem own_kept {w w' : World} {b : Nat} {e : TypeId} {s : Nat} {v : Value} {n : Nat} {ys : List Value} (h : w.ownsRow b e s v n ys) (hk : Kept w w') : w'.ownsRow b e s v n ys := by
  obtain ⟨h1, h2⟩ := h
  refine ⟨h1, ?_⟩
  rcases h2 with h | ⟨g, c, cur, k1, k2, k3, k4⟩
  · exact .inl h
  · exact .inr ⟨g, c, cur, k1, k2, (hk.block g (Array.getElem?_eq_some_iff.1 k3).1).trans k3, k4⟩
theorem addr_add (b off j : Nat) : (⟨b, off, none⟩ : Addr).add j = ⟨b, off + j, none⟩ := by
  unfold Addr.add; split <;> simp_all
theorem news_of {W : World} {cs : List Value} {t : TypeId} {m : Nat} (hm : W.heap.size = m) : ∀ j u, cs[j]? = some u → (W.alloc (.cells cs.toArray t)).cell? ((⟨m, 0, none⟩ : Addr).add j) = some u := by
  intro j u hu
  subst hm
  rw [addr_add, Nat.zero_add, cell_of_row _ _ _ _ _ _ (heap_alloc_new W _)]
  simpa using hu
theorem own_rowC {w : World} {base : Nat} {t : TypeId} {s g n c : Nat} {ys : List Value} (h : w.ownsRow base t s (.slice (some ⟨g, 0, none⟩) n c) n ys) : RowC w g ys := by
  intro j v hv
  have hj : j < n * s := by rw [← h.1]; exact (List.getElem?_eq_some_iff.1 hv).1
  refine ⟨by rw [h.cellAt j hj]; exact hv, ?_⟩
  rcases h.2 with ⟨h1, _⟩ | ⟨g', c', cur, h1, hb, hh, _⟩
  · cases h1
  · cases h1
    unfold World.frozen?
    rw [show (⟨g, j, none⟩ : Addr).block = g from rfl, hh]
    simp
/-- an own row stays when another row grows -/
theorem own_far {w w' : World} {b : Nat} {e : TypeId} {s : Nat} {v : Value} {n : Nat} {ys : List Value} {row : Option Nat} (h : w.ownsRow b e s v n ys) (hg : w.grownBy w' row) (hne : ∀ g, v.ownBlock = some g → row ≠ some g) : w'.ownsRow b e s v n ys := by
  refine ⟨h.1, ?_⟩
  rcases h.2 with h0 | ⟨g, cap, cur, hv, hb, hh, hr⟩
  · exact .inl h0
  · refine .inr ⟨g, cap, cur, hv, hb, ?_, hr⟩
    have hlt : g < w.heap.size := (Array.getElem?_eq_some_iff.1 hh).1
    rw [hg.block g hlt (by subst hv; exact fun e => hne g rfl e.symm)]
    exact hh
/-- two rows that do not meet -/
def Apart (u v : Value) : Prop := ∀ g, u.ownBlock = some g → v.ownBlock ≠ some g
theorem Apart.symm {u v : Value} (h : Apart u v) : Apart v u := fun g hv hu => h g hu hv
theorem own_lt {w : World} {b : Nat} {e : TypeId} {s : Nat} {v : Value} {n : Nat} {ys : List Value} (h : w.ownsRow b e s v n ys) {g : Nat} (hg : v.ownBlock = some g) : g < w.heap.size := by
  rcases h.2 with ⟨rfl, _⟩ | ⟨k, cap, cur, rfl, hb, hh, hr⟩
  · cases hg
  · injection hg with hg
    subst hg
    exact (Array.getElem?_eq_some_iff.1 hh).1
/-- after an append -/
theorem Apart.next {u v : Value} {g n c : Nat} {H : Nat} (h : Apart u v) (hv : ∀ k, v.ownBlock = some k → k < H) (hg : u.ownBlock = some g ∨ g = H) : Apart (.slice (some ⟨g, 0, none⟩) n c) v := by
  intro k hk hvk
  injection hk with hk
  subst hk
  rcases hg with e | e
  · exact h _ e hvk
  · have := hv _ hvk; simp at this; omega
end Go.Proofs.YtologmoanaccpaaGreatDoor

namespace Go.Proofs.YtologmoanaccpaaGreatDoor
set_option linter.all false
open Go.RowKit

theorem within_any (n lo hi : Int) (w : World) :
    Calls Tryz.prog 147 #[.int .i64 n, .int .i64 lo, .int .i64 hi] w fun e w' => e = .returned (.bool (inB n lo hi)) ∧ w = w' := by
  by_cases h1 : lo ≤ n
  · by_cases h2 : n ≤ hi
    · have hb : inB n lo hi = true := inB_iff.2 ⟨h1, h2⟩
      rw [hb]
      go_enter Tryz.func147, Tryz.ntmps147
      go_wp2
      go_ret
      exact ⟨rfl, rfl⟩
    · have hb : inB n lo hi = false := inB_not.2 (by omega)
      rw [hb]
      have h3 : hi < n := by omega
      go_enter Tryz.func147, Tryz.ntmps147
      go_wp2
      go_ret
      exact ⟨rfl, rfl⟩
  · have hb : inB n lo hi = false := inB_not.2 (by omega)
    rw [hb]
    have h3 : n < lo := by omega
    go_enter Tryz.func147, Tryz.ntmps147
    go_wp2
    go_ret
    exact ⟨rfl, rfl⟩
theorem isOwner_any (n : Int) (w : World) : Calls Tryz.prog 79 #[.int .i64 n] w fun e w' => e = .returned (.bool (inB n 1 40)) ∧ w = w' := by
  go_enter Tryz.func79, Tryz.ntmps79
  go_wp2_with (with_reducible refine (within_any _ _ _ _).mono ?_; rintro e w1 ⟨rfl, rfl⟩)
  go_ret
  exact ⟨rfl, rfl⟩
theorem isDay_any (n : Int) (w : World) : Calls Tryz.prog 75 #[.int .i64 n] w fun e w' => e = .returned (.bool (inB n 0 100000)) ∧ w = w' := by
  go_enter Tryz.func75, Tryz.ntmps75
  go_wp2_with (with_reducible refine (within_any _ _ _ _).mono ?_; rintro e w1 ⟨rfl, rfl⟩)
  go_ret
  exact ⟨rfl, rfl⟩
theorem isEar_any (n : Int) (w : World) : Calls Tryz.prog 165 #[.int .i64 n] w fun e w' => e = .returned (.bool (decide (n < 2))) ∧ w = w' := by
  go_enter Tryz.func165, Tryz.ntmps165
  go_wp2
  go_ret
  exact ⟨rfl, rfl⟩
def errB (b : Bool) : Int := if b then 0 else 1
theorem valid_any (b : Bool) (w : World) : Calls Tryz.prog 74 #[.bool b] w fun e w' => e = .returned (.int .i64 (errB b)) ∧ w = w' := by
  cases b
  · go_enter Tryz.func74, Tryz.ntmps74
    go_wp2
    go_ret
    exact ⟨rfl, rfl⟩
  · go_enter Tryz.func74, Tryz.ntmps74
    go_wp2
    go_ret
    exact ⟨rfl, rfl⟩

/-- six signs -/
structure Sg where
  (s0 s1 s2 s3 s4 s5 : Int)
deriving DecidableEq
def Sg.l (s : Sg) : List Int := [s.s0, s.s1, s.s2, s.s3, s.s4, s.s5]
def u8 (x : Int) : Prop := 0 ≤ x ∧ x ≤ 255
def Sg.ok (s : Sg) : Prop := u8 s.s0 ∧ u8 s.s1 ∧ u8 s.s2 ∧ u8 s.s3 ∧ u8 s.s4 ∧ u8 s.s5
def sgV (s : Sg) : List Value := [.int .u8 s.s0, .int .u8 s.s1, .int .u8 s.s2, .int .u8 s.s3, .int .u8 s.s4, .int .u8 s.s5]
theorem Sg.ok_l {s : Sg} (h : s.ok) : ∀ x ∈ s.l, u8 x := by
  obtain ⟨h0, h1, h2, h3, h4, h5⟩ := h
  intro x hx
  simp [Sg.l] at hx
  rcases hx with rfl | rfl | rfl | rfl | rfl | rfl <;> assumption
theorem sgV_at {s : Sg} {j : Nat} {x : Int} (h : s.l[j]? = some x) : (sgV s)[j]? = some (.int .u8 x) := by
  have : sgV s = s.l.map (Value.int .u8) := rfl
  rw [this, List.getElem?_map, h]; rfl

def mx (l : List Int) : Int := l.foldl max 0
theorem mx_snoc (l : List Int) (x : Int) : mx (l ++ [x]) = max (mx l) x := by simp [mx]
theorem mx_le : ∀ (l : List Int) (a : Int), (l.foldl max a ≤ 4) ↔ (a ≤ 4 ∧ ∀ x ∈ l, x ≤ 4)
  | [], a => by simp
  | x :: l, a => by
    rw [List.foldl_cons, mx_le l]
    simp only [List.mem_cons, forall_eq_or_imp]
    rw [← and_assoc]
    exact and_congr_left fun _ => by omega
theorem mx_bd : ∀ (l : List Int) (a : Int), 0 ≤ a → a ≤ 255 → (∀ x ∈ l, u8 x) → 0 ≤ l.foldl max a ∧ l.foldl max a ≤ 255
  | [], a, h0, h1, _ => ⟨h0, h1⟩
  | x :: l, a, h0, h1, h => by
    rw [List.foldl_cons]
    have hx := h x (List.mem_cons_self ..)
    unfold u8 at hx
    exact mx_bd l _ (by omega) (by omega) (fun y hy => h y (List.mem_cons_of_mem _ hy))
def clearB (s : Sg) : Bool := s.l.all fun x => decide (x ≤ 4)
theorem clear_mx (s : Sg) : decide (mx s.l ≤ 4) = clearB s := by
  rw [Bool.eq_iff_iff]
  unfold clearB
  rw [decide_eq_true_eq, List.all_eq_true]
  unfold mx
  rw [mx_le]
  simp

set_option maxHeartbeats 1600000 in
theorem max_any (b off n c : Nat) (xs : List Int) (hn : xs.length = n) (h1 : 0 < n) (hb : n ≤ 1000) (hx : ∀ x ∈ xs, u8 x) (w : World) (hc : ∀ j x, xs[j]? = some x → w.cell? ⟨b, off + j, none⟩ = some (.int .u8 x)) :
    Calls Tryz.prog 164 #[.slice (some ⟨b, off, none⟩) n c] w fun e w' => e = .returned (.int .u8 (mx xs)) ∧ w = w' := by
  have HN := Lib.hid hn
  have HC := Lib.hid hc
  have HX := Lib.hid hx
  obtain ⟨x0, hx0⟩ : ∃ x, xs[0]? = some x := ⟨_, List.getElem?_eq_getElem (by omega)⟩
  have c0 := hc 0 x0 hx0
  rw [Nat.add_zero] at c0
  have hu0 := hx x0 (List.mem_of_getElem? hx0)
  unfold u8 at hu0
  obtain ⟨hu1, hu2⟩ := hu0
  have h0 : ¬ ((n : Int) < 1) := by omega
  have h0' : (1 : Int) ≤ (n : Int) := by omega
  have h0'' : (0 : Int) < (n : Int) := by omega
  have HX0 := Lib.hid hx0
  clear hn hc hx hx0
  go_enter Tryz.func164, Tryz.ntmps164
  go_wp2
  go_loop [3, 4] (fun m i => ∃ k : Nat, 1 ≤ k ∧ k ≤ n ∧ i = .int .i64 k ∧ m = .int .u8 (mx (xs.take k))) (fun _ i => n - (intOf i).toNat)
  case atStart => exact ⟨1, by omega, by omega, by first | rfl | go_num, by
    have e : xs.take 1 = [x0] := by
      have := take_snoc' HX0.out
      simpa using this
    rw [e]; unfold mx; simp; omega⟩
  case round =>
    obtain ⟨k, hk1, hk, rfl, rfl⟩ := hrel
    by_cases hlt : k < n
    · obtain ⟨x, hx⟩ : ∃ x, xs[k]? = some x := ⟨_, List.getElem?_eq_getElem (by rw [HN.out]; exact hlt)⟩
      have c1 := HC.out k x hx
      have hu := HX.out x (List.mem_of_getElem? hx)
      unfold u8 at hu
      obtain ⟨hu3, hu4⟩ := hu
      have hsn := mx_snoc (xs.take k) x
      rw [← take_snoc' hx] at hsn
      obtain ⟨hm1, hm2⟩ := mx_bd (xs.take k) 0 (by omega) (by omega) (fun y hy => HX.out y (List.mem_of_mem_take hy))
      obtain ⟨M, hM⟩ : ∃ M, mx (xs.take k) = M := ⟨_, rfl⟩
      have hm1' : 0 ≤ M := by rw [← hM]; exact hm1
      have hm2' : M ≤ 255 := by rw [← hM]; exact hm2
      rw [hM] at hsn ⊢
      have HS := Lib.hid hsn
      clear hsn hm1 hm2 hx hM
      by_cases hcmp : M < x
      · go_wp2
        go_round
        case rel => exact ⟨k + 1, by omega, by omega, by go_num, by rw [HS.out]; rw [Int.max_eq_right (by omega)]⟩
        case measure => simp [intOf]; omega
      · go_wp2
        go_round
        case rel => exact ⟨k + 1, by omega, by omega, by go_num, by rw [HS.out]; rw [Int.max_eq_left (by omega)]⟩
        case measure => simp [intOf]; omega
    · obtain rfl : k = n := by omega
      have hT : xs.take k = xs := List.take_of_length_le (by rw [HN.out]; exact Nat.le_refl _)
      rw [hT]
      clear hT
      go_wp2
      go_ret
      exact ⟨rfl, rfl⟩

theorem isClear_any (s : Sg) (hs : s.ok) (w : World) : Calls Tryz.prog 102 #[.agg #[.int .u8 s.s0, .int .u8 s.s1, .int .u8 s.s2, .int .u8 s.s3, .int .u8 s.s4, .int .u8 s.s5]] w fun e w' => e = .returned (.bool (clearB s)) ∧ Kept w w' := by
  obtain ⟨W0, hW0⟩ : ∃ W0, W0 = w.alloc (.cells #[.int .u8 s.s0, .int .u8 s.s1, .int .u8 s.s2, .int .u8 s.s3, .int .u8 s.s4, .int .u8 s.s5] 30) := ⟨_, rfl⟩
  have K0 : RowKit.Hid (Kept w W0) := Lib.hid (by rw [hW0]; exact (Kept.refl _).alloc _)
  have R0 : RowKit.Hid (RowC W0 w.heap.size (sgV s)) := Lib.hid (by rw [hW0]; exact RowC.new w (sgV s) 30)
  have HW := Lib.hid hW0
  have HM : RowKit.Hid (Calls Tryz.prog 164 #[.slice (some ⟨w.heap.size, 0, none⟩) 6 6] W0 fun e w' => e = .returned (.int .u8 (mx s.l)) ∧ W0 = w') := Lib.hid (max_any _ 0 6 6 s.l rfl (by omega) (by omega) (Sg.ok_l hs) W0 (fun j x hj => by rw [Nat.zero_add]; exact (R0.out j _ (sgV_at hj)).1))
  have HCl := Lib.hid (clear_mx s)
  clear hW0
  go_enter Tryz.func102, Tryz.ntmps102
  go_upto_region 1 with (fail)
  rw [← HW.out]
  go_wp2_with fail
  refine HM.out.mono ?_
  rintro e w1 ⟨rfl, rfl⟩
  go_wp2
  go_ret
  exact ⟨by rw [← HCl.out]; rfl, K0.out⟩
end Go.Proofs.YtologmoanaccpaaGreatDoor

namespace Go.Proofs.YtologmoanaccpaaGreatDoor
set_option linter.all false
open Go.RowKit

theorem pow_lt64 {n : Nat} (hn : n ≤ 60) : (2 : Int) ^ n < 18446744073709551616 ∧ 0 < (2 : Int) ^ n := by
  have h1 : (2 : Nat) ^ n ≤ 2 ^ 60 := Nat.pow_le_pow_right (by omega) hn
  have h2 : 0 < (2 : Nat) ^ n := Nat.two_pow_pos n
  have e : ((2 ^ n : Nat) : Int) = (2 : Int) ^ n := by push_cast; rfl
  have h3 : ((2 ^ n : Nat) : Int) ≤ ((2 ^ 60 : Nat) : Int) := by exact_mod_cast h1
  have h4 : (0 : Int) < ((2 ^ n : Nat) : Int) := by exact_mod_cast h2
  rw [e] at h3 h4
  exact ⟨by have : (((2 ^ 60 : Nat) : Int)) < 18446744073709551616 := by decide
            omega, h4⟩
theorem just_any (n : Nat) (hn : n ≤ 60) (w : World) : Calls Tryz.prog 108 #[.int .i64 (n : Int)] w fun e w' => e = .returned (.int .u64 ((2 : Int) ^ n)) ∧ w = w' := by
  obtain ⟨p1, p2⟩ := pow_lt64 hn
  have hw := Lib.hid (u64_wrap_id ((2 : Int) ^ n) (by omega) p1)
  clear p1 p2
  go_enter Tryz.func108, Tryz.ntmps108
  go_wp2
  go_ret
  exact ⟨ret_int hw.out, rfl⟩
theorem and_two (m n : Nat) : m &&& 2 ^ n = if m.testBit n = true then 2 ^ n else 0 := by
  apply Nat.eq_of_testBit_eq
  intro i
  rw [Nat.testBit_and, Nat.testBit_two_pow]
  by_cases hi : n = i
  · subst hi
    cases h : m.testBit n
    · simp
    · simp [Nat.testBit_two_pow]
  · cases h : m.testBit n
    · simp [hi]
    · simp [hi, Nat.testBit_two_pow]
theorem and_pow {m n : Nat} (hm : m < 2 ^ 64) (hn : n ≤ 60) : (bits BinOp.and IntKind.u64 (m : Int) ((2 : Int) ^ n) != 0) = m.testBit n := by
  have e : ((2 ^ n : Nat) : Int) = (2 : Int) ^ n := by push_cast; rfl
  have h1 : (2 : Nat) ^ n < 2 ^ 64 := Nat.pow_lt_pow_right (by omega) (by omega)
  rw [← e, bits_and_u64_nat m (2 ^ n) (by omega) (by omega)]
  rw [and_two]
  have h2 := Nat.two_pow_pos n
  cases h : m.testBit n
  · simp
  · rw [if_pos rfl, bne_iff_ne]
    intro h3
    omega
theorem has_any (m n : Nat) (hm : m < 2 ^ 64) (hn : 1 ≤ n) (h40 : n ≤ 40) (w : World) : Calls Tryz.prog 92 #[.int .u64 (m : Int), .int .i64 (n : Int)] w fun e w' => e = .returned (.bool (m.testBit n)) ∧ w = w' := by
  have h1 : inB (n : Int) 1 40 = true := inB_iff.2 (by omega)
  have ha := Lib.hid (and_pow hm (show n ≤ 60 by omega))
  clear hm
  go_enter Tryz.func92, Tryz.ntmps92
  go_wp2_with fail
  refine (isOwner_any _ _).mono ?_
  rintro e w1 ⟨rfl, rfl⟩
  rw [h1]
  go_wp2_with fail
  refine (just_any n (by omega) _).mono ?_
  rintro e w1 ⟨rfl, rfl⟩
  go_wp2
  go_ret
  exact ⟨ret_bool ha.out, rfl⟩
theorem has_no (m : Int) (n : Int) (hn : inB n 1 40 = false) (w : World) : Calls Tryz.prog 92 #[.int .u64 m, .int .i64 n] w fun e w' => e = .returned (.bool false) ∧ w = w' := by
  have hn := Lib.hid hn
  go_enter Tryz.func92, Tryz.ntmps92
  go_wp2_with fail
  refine (isOwner_any _ _).mono ?_
  rintro e w1 ⟨rfl, rfl⟩
  rw [hn.out]
  go_wp2
  go_ret
  exact ⟨rfl, rfl⟩
end Go.Proofs.YtologmoanaccpaaGreatDoor

namespace Go.Proofs.YtologmoanaccpaaGreatDoor
set_option linter.all false
open Go.RowKit

def i64 (x : Int) : Prop := -9223372036854775808 ≤ x ∧ x ≤ 9223372036854775807
/-- a mark -/
structure Mk where
  (own frm unt : Int)
  (sg : Sg)
deriving DecidableEq
def mkC (m : Mk) : List Value := [.int .i64 m.own, .int .i64 m.frm, .int .i64 m.unt, .int .u8 m.sg.s0, .int .u8 m.sg.s1, .int .u8 m.sg.s2, .int .u8 m.sg.s3, .int .u8 m.sg.s4, .int .u8 m.sg.s5]
def Mk.ok (m : Mk) : Prop := i64 m.own ∧ i64 m.frm ∧ i64 m.unt ∧ m.sg.ok
/-- a fade -/
structure Fd where
  (sign seen : Int)
deriving DecidableEq
def fdC (f : Fd) : List Value := [.int .u8 f.sign, .int .u8 f.seen]
def Fd.ok (f : Fd) : Prop := u8 f.sign ∧ u8 f.seen
/-- a claim -/
structure Cl where
  (own num : Int)
deriving DecidableEq
def clC (f : Cl) : List Value := [.int .i64 f.own, .int .i64 f.num]
def Cl.ok (f : Cl) : Prop := i64 f.own ∧ i64 f.num
/-- a slice of elements of k cells -/
def SlA {α : Type} (enc : α → List Value) (k : Nat) (ok : α → Prop) (w : World) (A : Option Addr) (n c : Nat) (xs : List α) : Prop :=
  xs.length = n ∧ n ≤ c ∧ c ≤ 9223372036854775807 ∧ (∀ x ∈ xs, ok x) ∧
  (0 < n → ∃ b off, A = some ⟨b, off, none⟩ ∧ ∀ i x, xs[i]? = some x → ∀ j v, (enc x)[j]? = some v → w.cell? ⟨b, off + i * k + j, none⟩ = some v)
theorem SlA.kept {α : Type} {enc : α → List Value} {k : Nat} {ok : α → Prop} {w w' : World} {A : Option Addr} {n c : Nat} {xs : List α} (h : SlA enc k ok w A n c xs) (hk : Kept w w') : SlA enc k ok w' A n c xs :=
  ⟨h.1, h.2.1, h.2.2.1, h.2.2.2.1, fun hn => by
    obtain ⟨b, off, e, ht⟩ := h.2.2.2.2 hn
    exact ⟨b, off, e, fun i x hx j v hv => (hk.cells _ _ (cell_lt (ht i x hx j v hv))).trans (ht i x hx j v hv)⟩⟩
/-- what a predicate that is handed in has to do -/
def PredG {α : Type} (enc : α → List Value) (ok : α → Prop) (g : Nat) (lb : Array Value) (p : α → Bool) (w : World) : Prop :=
  ∀ (W : World) (x : α), ok x → Kept w W → Calls Tryz.prog g (#[.agg (enc x).toArray] ++ lb) W fun e w' => e = .returned (.bool (p x)) ∧ Kept W w'
def idxP {α : Type} (p : α → Bool) (xs : List α) : Int := if xs.any p = true then (xs.findIdx p : Int) else -1
theorem idxP_at {α : Type} {p : α → Bool} {xs : List α} {k : Nat} {x : α} (h : xs[k]? = some x) (hp : p x = true) (ho : ∀ j y, j < k → xs[j]? = some y → p y = false) : idxP p xs = (k : Int) := by
  have hm : x ∈ xs := List.mem_of_getElem? h
  have ha : xs.any p = true := List.any_eq_true.2 ⟨x, hm, hp⟩
  unfold idxP
  rw [if_pos ha]
  congr 1
  obtain ⟨hk, hx⟩ := List.getElem?_eq_some_iff.1 h
  rw [List.findIdx_eq hk]
  refine ⟨by rw [hx]; exact hp, fun j hj => ?_⟩
  exact ho j _ hj (List.getElem?_eq_getElem (by omega))
theorem idxP_none {α : Type} {p : α → Bool} {xs : List α} (ho : ∀ (j : Nat) (y : α), xs[j]? = some y → p y = false) : idxP p xs = -1 := by
  unfold idxP
  rw [if_neg]
  rw [List.any_eq_true]
  rintro ⟨x, hx, hp⟩
  obtain ⟨j, hj⟩ := List.getElem?_of_mem hx
  rw [ho j x hj] at hp
  cases hp
theorem idxP_nonneg {α : Type} (p : α → Bool) (xs : List α) : decide (0 ≤ idxP p xs) = xs.any p := by
  unfold idxP
  by_cases h : xs.any p = true
  · rw [if_pos h, h]; simp
  · have h' : xs.any p = false := by simpa using h
    rw [if_neg h, h']; rfl
theorem all_false {α : Type} {p : α → Bool} {xs : List α} {k : Nat} {x : α} (h : xs[k]? = some x) (hp : p x = false) : xs.all p = false := by
  rw [List.all_eq_false]
  exact ⟨x, List.mem_of_getElem? h, by simp [hp]⟩
theorem all_true {α : Type} {p : α → Bool} {xs : List α} {n : Nat} (hn : xs.length = n) (ho : ∀ j y, j < n → xs[j]? = some y → p y = true) : xs.all p = true := by
  rw [List.all_eq_true]
  intro x hx
  obtain ⟨j, hj⟩ := List.getElem?_of_mem hx
  exact ho j x (by rw [← hn]; exact (List.getElem?_eq_some_iff.1 hj).1) hj

set_option maxRecDepth 100000 in
set_option maxHeartbeats 3200000 in
theorem every_mk (g : Nat) (lb : Array Value) (p : Mk → Bool) (eg : ∀ args w, (callFunc g args).run Tryz.prog w = .ok (.enter g args) w) (A : Option Addr) (n c : Nat) (xs : List Mk) (w : World) (hs : SlA mkC 9 Mk.ok w A n c xs) (hp : PredG mkC Mk.ok g lb p w) :
    Calls Tryz.prog 81 #[.slice A n c, .func (.func g) #[] lb] w fun e w' => e = .returned (.bool (xs.all p)) ∧ Kept w w' := by
  have HS := Lib.hid hs
  have HP := Lib.hid hp
  have hnc := hs.2.1
  have hcm := hs.2.2.1
  clear hs hp
  go_enter Tryz.func81, Tryz.ntmps81
  go_wp2_with fail
  go_loopw [9] (fun i wr => ∃ k : Nat, k ≤ n ∧ i = .int .i64 k ∧ (∀ j x, j < k → xs[j]? = some x → p x = true) ∧ Kept w wr) (fun i _ => n - (intOf i).toNat)
  case atStart => exact ⟨0, by omega, by first | rfl | go_num, fun j x hj => by omega, Kept.refl _⟩
  case round =>
    obtain ⟨k, hk, rfl, ho, hkr⟩ := hrel
    have Ho := Lib.hid ho
    have HKR := Lib.hid hkr
    clear ho hkr
    by_cases hlt : k < n
    · obtain ⟨x, hx⟩ : ∃ x, xs[k]? = some x := ⟨_, List.getElem?_eq_getElem (by rw [HS.out.1]; exact hlt)⟩
      have hok := Lib.hid (HS.out.2.2.2.1 x (List.mem_of_getElem? hx))
      obtain ⟨b, off, hA, ht⟩ := HS.out.2.2.2.2 (by omega)
      subst hA
      have hcc := fun j v hv => (HKR.out.cells _ _ (cell_lt (ht k x hx j v hv))).trans (ht k x hx j v hv)
      have c0 := hcc 0 _ rfl
      have c1 := hcc 1 _ rfl
      have c2 := hcc 2 _ rfl
      have c3 := hcc 3 _ rfl
      have c4 := hcc 4 _ rfl
      have c5 := hcc 5 _ rfl
      have c6 := hcc 6 _ rfl
      have c7 := hcc 7 _ rfl
      have c8 := hcc 8 _ rfl
      simp only [Nat.add_zero] at c0
      have Hx := Lib.hid hx
      clear hx ht hcc
      obtain ⟨q, hq⟩ : ∃ q, p x = q := ⟨_, rfl⟩
      have HQ := Lib.hid hq
      have HC : RowKit.Hid (∀ W, Kept w W → Calls Tryz.prog g (#[.agg (mkC x).toArray] ++ lb) W fun e w' => e = .returned (.bool q) ∧ Kept W w') := Lib.hid (fun W hW => by rw [← hq]; exact HP.out W x hok.out hW)
      unfold mkC at HC
      clear hq
      go_wp2_with fail
      refine (HC.out _ (HKR.out.alloc _)).mono ?_
      rintro e w1 ⟨rfl, hk1⟩
      have HK1 := Lib.hid ((HKR.out.alloc _).trans hk1)
      clear hk1
      cases q
      · go_wp2
        go_ret
        exact ⟨ret_bool (all_false Hx.out HQ.out).symm, HK1.out⟩
      · go_wp2
        go_roundw
        case rel =>
          refine ⟨k + 1, by omega, by go_num, fun j y hj hy => ?_, HK1.out⟩
          rcases Nat.lt_or_eq_of_le (Nat.le_of_lt_succ hj) with h | h
          · exact Ho.out j y h hy
          · subst h
            have := Hx.out
            rw [hy] at this
            cases this
            exact HQ.out
        case measure => simp [intOf]; omega
    · obtain rfl : k = n := by omega
      go_wp2
      go_ret
      exact ⟨ret_bool (all_true HS.out.1 Ho.out).symm, HKR.out⟩

set_option maxRecDepth 100000 in
set_option maxHeartbeats 3200000 in
theorem every_fd (g : Nat) (lb : Array Value) (p : Fd → Bool) (eg : ∀ args w, (callFunc g args).run Tryz.prog w = .ok (.enter g args) w) (A : Option Addr) (n c : Nat) (xs : List Fd) (w : World) (hs : SlA fdC 2 Fd.ok w A n c xs) (hp : PredG fdC Fd.ok g lb p w) :
    Calls Tryz.prog 83 #[.slice A n c, .func (.func g) #[] lb] w fun e w' => e = .returned (.bool (xs.all p)) ∧ Kept w w' := by
  have HS := Lib.hid hs
  have HP := Lib.hid hp
  have hnc := hs.2.1
  have hcm := hs.2.2.1
  clear hs hp
  go_enter Tryz.func83, Tryz.ntmps83
  go_wp2_with fail
  go_loopw [9] (fun i wr => ∃ k : Nat, k ≤ n ∧ i = .int .i64 k ∧ (∀ j x, j < k → xs[j]? = some x → p x = true) ∧ Kept w wr) (fun i _ => n - (intOf i).toNat)
  case atStart => exact ⟨0, by omega, by first | rfl | go_num, fun j x hj => by omega, Kept.refl _⟩
  case round =>
    obtain ⟨k, hk, rfl, ho, hkr⟩ := hrel
    have Ho := Lib.hid ho
    have HKR := Lib.hid hkr
    clear ho hkr
    by_cases hlt : k < n
    · obtain ⟨x, hx⟩ : ∃ x, xs[k]? = some x := ⟨_, List.getElem?_eq_getElem (by rw [HS.out.1]; exact hlt)⟩
      have hok := Lib.hid (HS.out.2.2.2.1 x (List.mem_of_getElem? hx))
      obtain ⟨b, off, hA, ht⟩ := HS.out.2.2.2.2 (by omega)
      subst hA
      have hcc := fun j v hv => (HKR.out.cells _ _ (cell_lt (ht k x hx j v hv))).trans (ht k x hx j v hv)
      have c0 := hcc 0 _ rfl
      have c1 := hcc 1 _ rfl
      simp only [Nat.add_zero] at c0
      have Hx := Lib.hid hx
      clear hx ht hcc
      obtain ⟨q, hq⟩ : ∃ q, p x = q := ⟨_, rfl⟩
      have HQ := Lib.hid hq
      have HC : RowKit.Hid (∀ W, Kept w W → Calls Tryz.prog g (#[.agg (fdC x).toArray] ++ lb) W fun e w' => e = .returned (.bool q) ∧ Kept W w') := Lib.hid (fun W hW => by rw [← hq]; exact HP.out W x hok.out hW)
      unfold fdC at HC
      clear hq
      go_wp2_with fail
      refine (HC.out _ (HKR.out.alloc _)).mono ?_
      rintro e w1 ⟨rfl, hk1⟩
      have HK1 := Lib.hid ((HKR.out.alloc _).trans hk1)
      clear hk1
      cases q
      · go_wp2
        go_ret
        exact ⟨ret_bool (all_false Hx.out HQ.out).symm, HK1.out⟩
      · go_wp2
        go_roundw
        case rel =>
          refine ⟨k + 1, by omega, by go_num, fun j y hj hy => ?_, HK1.out⟩
          rcases Nat.lt_or_eq_of_le (Nat.le_of_lt_succ hj) with h | h
          · exact Ho.out j y h hy
          · subst h
            have := Hx.out
            rw [hy] at this
            cases this
            exact HQ.out
        case measure => simp [intOf]; omega
    · obtain rfl : k = n := by omega
      go_wp2
      go_ret
      exact ⟨ret_bool (all_true HS.out.1 Ho.out).symm, HKR.out⟩

set_option maxRecDepth 100000 in
set_option maxHeartbeats 3200000 in
theorem every_sg (g : Nat) (lb : Array Value) (p : Sg → Bool) (eg : ∀ args w, (callFunc g args).run Tryz.prog w = .ok (.enter g args) w) (A : Option Addr) (n c : Nat) (xs : List Sg) (w : World) (hs : SlA sgV 6 Sg.ok w A n c xs) (hp : PredG sgV Sg.ok g lb p w) :
    Calls Tryz.prog 168 #[.slice A n c, .func (.func g) #[] lb] w fun e w' => e = .returned (.bool (xs.all p)) ∧ Kept w w' := by
  have HS := Lib.hid hs
  have HP := Lib.hid hp
  have hnc := hs.2.1
  have hcm := hs.2.2.1
  clear hs hp
  go_enter Tryz.func168, Tryz.ntmps168
  go_wp2_with fail
  go_loopw [9] (fun i wr => ∃ k : Nat, k ≤ n ∧ i = .int .i64 k ∧ (∀ j x, j < k → xs[j]? = some x → p x = true) ∧ Kept w wr) (fun i _ => n - (intOf i).toNat)
  case atStart => exact ⟨0, by omega, by first | rfl | go_num, fun j x hj => by omega, Kept.refl _⟩
  case round =>
    obtain ⟨k, hk, rfl, ho, hkr⟩ := hrel
    have Ho := Lib.hid ho
    have HKR := Lib.hid hkr
    clear ho hkr
    by_cases hlt : k < n
    · obtain ⟨x, hx⟩ : ∃ x, xs[k]? = some x := ⟨_, List.getElem?_eq_getElem (by rw [HS.out.1]; exact hlt)⟩
      have hok := Lib.hid (HS.out.2.2.2.1 x (List.mem_of_getElem? hx))
      obtain ⟨b, off, hA, ht⟩ := HS.out.2.2.2.2 (by omega)
      subst hA
      have hcc := fun j v hv => (HKR.out.cells _ _ (cell_lt (ht k x hx j v hv))).trans (ht k x hx j v hv)
      have c0 := hcc 0 _ rfl
      have c1 := hcc 1 _ rfl
      have c2 := hcc 2 _ rfl
      have c3 := hcc 3 _ rfl
      have c4 := hcc 4 _ rfl
      have c5 := hcc 5 _ rfl
      simp only [Nat.add_zero] at c0
      have Hx := Lib.hid hx
      clear hx ht hcc
      obtain ⟨q, hq⟩ : ∃ q, p x = q := ⟨_, rfl⟩
      have HQ := Lib.hid hq
      have HC : RowKit.Hid (∀ W, Kept w W → Calls Tryz.prog g (#[.agg (sgV x).toArray] ++ lb) W fun e w' => e = .returned (.bool q) ∧ Kept W w') := Lib.hid (fun W hW => by rw [← hq]; exact HP.out W x hok.out hW)
      unfold sgV at HC
      clear hq
      go_wp2_with fail
      refine (HC.out _ (HKR.out.alloc _)).mono ?_
      rintro e w1 ⟨rfl, hk1⟩
      have HK1 := Lib.hid ((HKR.out.alloc _).trans hk1)
      clear hk1
      cases q
      · go_wp2
        go_ret
        exact ⟨ret_bool (all_false Hx.out HQ.out).symm, HK1.out⟩
      · go_wp2
        go_roundw
        case rel =>
          refine ⟨k + 1, by omega, by go_num, fun j y hj hy => ?_, HK1.out⟩
          rcases Nat.lt_or_eq_of_le (Nat.le_of_lt_succ hj) with h | h
          · exact Ho.out j y h hy
          · subst h
            have := Hx.out
            rw [hy] at this
            cases this
            exact HQ.out
        case measure => simp [intOf]; omega
    · obtain rfl : k = n := by omega
      go_wp2
      go_ret
      exact ⟨ret_bool (all_true HS.out.1 Ho.out).symm, HKR.out⟩

set_option maxRecDepth 100000 in
set_option maxHeartbeats 3200000 in
theorem index_mk (g : Nat) (lb : Array Value) (p : Mk → Bool) (eg : ∀ args w, (callFunc g args).run Tryz.prog w = .ok (.enter g args) w) (A : Option Addr) (n c : Nat) (xs : List Mk) (w : World) (hs : SlA mkC 9 Mk.ok w A n c xs) (hp : PredG mkC Mk.ok g lb p w) :
    Calls Tryz.prog 151 #[.slice A n c, .func (.func g) #[] lb] w fun e w' => e = .returned (.int .i64 (idxP p xs)) ∧ Kept w w' := by
  have HS := Lib.hid hs
  have HP := Lib.hid hp
  have hnc := hs.2.1
  have hcm := hs.2.2.1
  clear hs hp
  go_enter Tryz.func151, Tryz.ntmps151
  go_wp2_with fail
  go_loopw [8] (fun i wr => ∃ k : Nat, k ≤ n ∧ i = .int .i64 k ∧ (∀ j x, j < k → xs[j]? = some x → p x = false) ∧ Kept w wr) (fun i _ => n - (intOf i).toNat)
  case atStart => exact ⟨0, by omega, by first | rfl | go_num, fun j x hj => by omega, Kept.refl _⟩
  case round =>
    obtain ⟨k, hk, rfl, ho, hkr⟩ := hrel
    have Ho := Lib.hid ho
    have HKR := Lib.hid hkr
    clear ho hkr
    by_cases hlt : k < n
    · obtain ⟨x, hx⟩ : ∃ x, xs[k]? = some x := ⟨_, List.getElem?_eq_getElem (by rw [HS.out.1]; exact hlt)⟩
      have hok := Lib.hid (HS.out.2.2.2.1 x (List.mem_of_getElem? hx))
      obtain ⟨b, off, hA, ht⟩ := HS.out.2.2.2.2 (by omega)
      subst hA
      have hcc := fun j v hv => (HKR.out.cells _ _ (cell_lt (ht k x hx j v hv))).trans (ht k x hx j v hv)
      have c0 := hcc 0 _ rfl
      have c1 := hcc 1 _ rfl
      have c2 := hcc 2 _ rfl
      have c3 := hcc 3 _ rfl
      have c4 := hcc 4 _ rfl
      have c5 := hcc 5 _ rfl
      have c6 := hcc 6 _ rfl
      have c7 := hcc 7 _ rfl
      have c8 := hcc 8 _ rfl
      simp only [Nat.add_zero] at c0
      have Hx := Lib.hid hx
      clear hx ht hcc
      obtain ⟨q, hq⟩ : ∃ q, p x = q := ⟨_, rfl⟩
      have HQ := Lib.hid hq
      have HC : RowKit.Hid (∀ W, Kept w W → Calls Tryz.prog g (#[.agg (mkC x).toArray] ++ lb) W fun e w' => e = .returned (.bool q) ∧ Kept W w') := Lib.hid (fun W hW => by rw [← hq]; exact HP.out W x hok.out hW)
      unfold mkC at HC
      clear hq
      go_wp2_with fail
      refine (HC.out _ HKR.out).mono ?_
      rintro e w1 ⟨rfl, hk1⟩
      have HK1 := Lib.hid (HKR.out.trans hk1)
      clear hk1
      cases q
      · go_wp2
        go_roundw
        case rel =>
          refine ⟨k + 1, by omega, by go_num, fun j y hj hy => ?_, HK1.out⟩
          rcases Nat.lt_or_eq_of_le (Nat.le_of_lt_succ hj) with h | h
          · exact Ho.out j y h hy
          · subst h
            have := Hx.out
            rw [hy] at this
            cases this
            exact HQ.out
        case measure => simp [intOf]; omega
      · go_wp2
        go_ret
        exact ⟨ret_int (idxP_at Hx.out HQ.out Ho.out).symm, HK1.out⟩
    · obtain rfl : k = n := by omega
      go_wp2
      go_ret
      exact ⟨ret_int (idxP_none (fun j y hy => Ho.out j y (by rw [← HS.out.1]; exact (List.getElem?_eq_some_iff.1 hy).1) hy)).symm, HKR.out⟩
theorem contains_mk (g : Nat) (lb : Array Value) (p : Mk → Bool) (eg : ∀ args w, (callFunc g args).run Tryz.prog w = .ok (.enter g args) w) (A : Option Addr) (n c : Nat) (xs : List Mk) (w : World) (hs : SlA mkC 9 Mk.ok w A n c xs) (hp : PredG mkC Mk.ok g lb p w) :
    Calls Tryz.prog 154 #[.slice A n c, .func (.func g) #[] lb] w fun e w' => e = .returned (.bool (xs.any p)) ∧ Kept w w' := by
  have HI := Lib.hid (index_mk g lb p eg A n c xs w hs hp)
  clear hs hp
  go_enter Tryz.func154, Tryz.ntmps154
  go_wp2_with fail
  refine HI.out.mono ?_
  rintro e w1 ⟨rfl, hk1⟩
  go_wp2
  go_ret
  exact ⟨ret_bool (idxP_nonneg p xs), hk1⟩
end Go.Proofs.YtologmoanaccpaaGreatDoor

namespace Go.Proofs.YtologmoanaccpaaGreatDoor
set_option linter.all false
open Go.RowKit

def markB (m : Mk) : Bool := inB m.own 1 40 && inB m.frm 0 100000 && inB m.unt 0 100000 && decide (m.frm ≤ m.unt) && clearB m.sg
def fadeB (f : Fd) : Bool := inB f.sign 1 4 && decide (f.seen ≤ 4) && (f.seen != f.sign)
def badB (x : Int) : Bool := decide (4 < x) && (x != 9)
def sightB (s : Sg) : Bool := !s.l.any badB
theorem e82 : ∀ args w, (callFunc 82 args).run Tryz.prog w = .ok (.enter 82 args) w := enters_of Tryz.func82 (by kernel_rfl) rfl
theorem e84 : ∀ args w, (callFunc 84 args).run Tryz.prog w = .ok (.enter 84 args) w := enters_of Tryz.func84 (by kernel_rfl) rfl
theorem e89 : ∀ args w, (callFunc 89 args).run Tryz.prog w = .ok (.enter 89 args) w := enters_of Tryz.func89 (by kernel_rfl) rfl
theorem e156 : ∀ args w, (callFunc 156 args).run Tryz.prog w = .ok (.enter 156 args) w := enters_of Tryz.func156 (by kernel_rfl) rfl

set_option maxRecDepth 100000 in
set_option maxHeartbeats 3200000 in
theorem isMark_any (m : Mk) (hm : m.ok) (w : World) : Calls Tryz.prog 82 #[.agg #[.int .i64 m.own, .int .i64 m.frm, .int .i64 m.unt, .int .u8 m.sg.s0, .int .u8 m.sg.s1, .int .u8 m.sg.s2, .int .u8 m.sg.s3, .int .u8 m.sg.s4, .int .u8 m.sg.s5]] w fun e w' => e = .returned (.bool (markB m)) ∧ Kept w w' := by
  obtain ⟨W0, hW0⟩ : ∃ W0, W0 = w.alloc (.cells #[.int .i64 m.own, .int .i64 m.frm, .int .i64 m.unt, .int .u8 m.sg.s0, .int .u8 m.sg.s1, .int .u8 m.sg.s2, .int .u8 m.sg.s3, .int .u8 m.sg.s4, .int .u8 m.sg.s5] 32) := ⟨_, rfl⟩
  have K0 : RowKit.Hid (Kept w W0) := Lib.hid (by rw [hW0]; exact (Kept.refl _).alloc _)
  have R0 : RowKit.Hid (RowC W0 w.heap.size (mkC m)) := Lib.hid (by rw [hW0]; exact RowC.new w (mkC m) 32)
  have HW := Lib.hid hW0
  obtain ⟨b1, hb1⟩ : ∃ b, inB m.own 1 40 = b := ⟨_, rfl⟩
  obtain ⟨b2, hb2⟩ : ∃ b, inB m.frm 0 100000 = b := ⟨_, rfl⟩
  obtain ⟨b3, hb3⟩ : ∃ b, inB m.unt 0 100000 = b := ⟨_, rfl⟩
  obtain ⟨b4, hb4⟩ : ∃ b, decide (m.frm ≤ m.unt) = b := ⟨_, rfl⟩
  obtain ⟨b5, hb5⟩ : ∃ b, clearB m.sg = b := ⟨_, rfl⟩
  have HB : RowKit.Hid (markB m = (b1 && b2 && b3 && b4 && b5)) := Lib.hid (by unfold markB; rw [hb1, hb2, hb3, hb4, hb5])
  have H1 : RowKit.Hid (∀ W, Calls Tryz.prog 79 #[.int .i64 m.own] W fun e w' => e = .returned (.bool b1) ∧ W = w') := Lib.hid (fun W => by rw [← hb1]; exact isOwner_any _ W)
  have H2 : RowKit.Hid (∀ W, Calls Tryz.prog 75 #[.int .i64 m.frm] W fun e w' => e = .returned (.bool b2) ∧ W = w') := Lib.hid (fun W => by rw [← hb2]; exact isDay_any _ W)
  have H3 : RowKit.Hid (∀ W, Calls Tryz.prog 75 #[.int .i64 m.unt] W fun e w' => e = .returned (.bool b3) ∧ W = w') := Lib.hid (fun W => by rw [← hb3]; exact isDay_any _ W)
  have H5 : RowKit.Hid (∀ W, Calls Tryz.prog 102 #[.agg #[.int .u8 m.sg.s0, .int .u8 m.sg.s1, .int .u8 m.sg.s2, .int .u8 m.sg.s3, .int .u8 m.sg.s4, .int .u8 m.sg.s5]] W fun e w' => e = .returned (.bool b5) ∧ Kept W w') := Lib.hid (fun W => by rw [← hb5]; exact isClear_any _ hm.2.2.2 W)
  have a0 := (R0.out 0 _ rfl).1
  have a1 := (R0.out 1 _ rfl).1
  have a2 := (R0.out 2 _ rfl).1
  have a3 := (R0.out 3 _ rfl).1
  have a4 := (R0.out 4 _ rfl).1
  have a5 := (R0.out 5 _ rfl).1
  have a6 := (R0.out 6 _ rfl).1
  have a7 := (R0.out 7 _ rfl).1
  have a8 := (R0.out 8 _ rfl).1
  have la := cell_lt a0
  clear hW0 hb1 hb2 hb3 hb5 hm
  cases b1
  · clear hb4
    go_enter Tryz.func82, Tryz.ntmps82
    go_upto_region 1 with (fail)
    rw [← HW.out]
    go_wp2_with fail
    refine (H1.out _).mono ?_
    rintro e w1 ⟨rfl, rfl⟩
    go_wp2
    go_ret
    exact ⟨ret_bool (by rw [HB.out]; rfl), K0.out⟩
  cases b2
  · clear hb4
    go_enter Tryz.func82, Tryz.ntmps82
    go_upto_region 1 with (fail)
    rw [← HW.out]
    go_wp2_with fail
    refine (H1.out _).mono ?_
    rintro e w1 ⟨rfl, rfl⟩
    go_wp2_with fail
    refine (H2.out _).mono ?_
    rintro e w1 ⟨rfl, rfl⟩
    go_wp2
    go_ret
    exact ⟨ret_bool (by rw [HB.out]; rfl), K0.out⟩
  cases b3
  · clear hb4
    go_enter Tryz.func82, Tryz.ntmps82
    go_upto_region 1 with (fail)
    rw [← HW.out]
    go_wp2_with fail
    refine (H1.out _).mono ?_
    rintro e w1 ⟨rfl, rfl⟩
    go_wp2_with fail
    refine (H2.out _).mono ?_
    rintro e w1 ⟨rfl, rfl⟩
    go_wp2_with fail
    refine (H3.out _).mono ?_
    rintro e w1 ⟨rfl, rfl⟩
    go_wp2
    go_ret
    exact ⟨ret_bool (by rw [HB.out]; rfl), K0.out⟩
  cases b4
  · go_enter Tryz.func82, Tryz.ntmps82
    go_upto_region 1 with (fail)
    rw [← HW.out]
    go_wp2_with fail
    refine (H1.out _).mono ?_
    rintro e w1 ⟨rfl, rfl⟩
    go_wp2_with fail
    refine (H2.out _).mono ?_
    rintro e w1 ⟨rfl, rfl⟩
    go_wp2_with fail
    refine (H3.out _).mono ?_
    rintro e w1 ⟨rfl, rfl⟩
    go_wp2
    go_ret
    exact ⟨ret_bool (by rw [HB.out]; rfl), K0.out⟩
  · go_enter Tryz.func82, Tryz.ntmps82
    go_upto_region 1 with (fail)
    rw [← HW.out]
    go_wp2_with fail
    refine (H1.out _).mono ?_
    rintro e w1 ⟨rfl, rfl⟩
    go_wp2_with fail
    refine (H2.out _).mono ?_
    rintro e w1 ⟨rfl, rfl⟩
    go_wp2_with fail
    refine (H3.out _).mono ?_
    rintro e w1 ⟨rfl, rfl⟩
    go_wp2_with fail
    refine (H5.out _).mono ?_
    rintro e w1 ⟨rfl, hk1⟩
    have HK := Lib.hid (K0.out.trans hk1)
    clear hk1
    go_wp2
    go_ret
    exact ⟨ret_bool (by rw [HB.out]; rfl), HK.out⟩
theorem pred82 (w : World) : PredG mkC Mk.ok 82 #[] markB w := fun W x hx _ => isMark_any x hx W

set_option maxRecDepth 100000 in
set_option maxHeartbeats 3200000 in
theorem isFade_any (f : Fd) (hf : f.ok) (w : World) : Calls Tryz.prog 84 #[.agg #[.int .u8 f.sign, .int .u8 f.seen]] w fun e w' => e = .returned (.bool (fadeB f)) ∧ Kept w w' := by
  obtain ⟨W0, hW0⟩ : ∃ W0, W0 = w.alloc (.cells #[.int .u8 f.sign, .int .u8 f.seen] 87) := ⟨_, rfl⟩
  have K0 : RowKit.Hid (Kept w W0) := Lib.hid (by rw [hW0]; exact (Kept.refl _).alloc _)
  have R0 : RowKit.Hid (RowC W0 w.heap.size (fdC f)) := Lib.hid (by rw [hW0]; exact RowC.new w (fdC f) 87)
  have HW := Lib.hid hW0
  obtain ⟨⟨s1, s2⟩, ⟨s3, s4⟩⟩ := hf
  obtain ⟨b1, hb1⟩ : ∃ b, inB f.sign 1 4 = b := ⟨_, rfl⟩
  obtain ⟨b2, hb2⟩ : ∃ b, decide (f.seen ≤ 4) = b := ⟨_, rfl⟩
  obtain ⟨b3, hb3⟩ : ∃ b, (f.seen != f.sign) = b := ⟨_, rfl⟩
  have HB : RowKit.Hid (fadeB f = (b1 && b2 && b3)) := Lib.hid (by unfold fadeB; rw [hb1, hb2, hb3])
  have H1 : RowKit.Hid (∀ W, Calls Tryz.prog 147 #[.int .i64 f.sign, .int .i64 1, .int .i64 4] W fun e w' => e = .returned (.bool b1) ∧ W = w') := Lib.hid (fun W => by rw [← hb1]; exact within_any _ _ _ W)
  have a0 := (R0.out 0 _ rfl).1
  have a1 := (R0.out 1 _ rfl).1
  have la := cell_lt a0
  clear hW0 hb1
  cases b1
  · clear hb2 hb3
    go_enter Tryz.func84, Tryz.ntmps84
    go_upto_region 1 with (fail)
    rw [← HW.out]
    go_wp2_with fail
    refine (H1.out _).mono ?_
    rintro e w1 ⟨rfl, rfl⟩
    go_wp2
    go_ret
    exact ⟨ret_bool (by rw [HB.out]; rfl), K0.out⟩
  cases b2
  · clear hb3
    go_enter Tryz.func84, Tryz.ntmps84
    go_upto_region 1 with (fail)
    rw [← HW.out]
    go_wp2_with fail
    refine (H1.out _).mono ?_
    rintro e w1 ⟨rfl, rfl⟩
    go_wp2
    go_ret
    exact ⟨ret_bool (by rw [HB.out]; rfl), K0.out⟩
  cases b3
  all_goals
    go_enter Tryz.func84, Tryz.ntmps84
    go_upto_region 1 with (fail)
    rw [← HW.out]
    go_wp2_with fail
    refine (H1.out _).mono ?_
    rintro e w1 ⟨rfl, rfl⟩
    go_wp2
    go_ret
    exact ⟨ret_bool (by rw [HB.out]; rfl), K0.out⟩
theorem pred84 (w : World) : PredG fdC Fd.ok 84 #[] fadeB w := fun W x hx _ => isFade_any x hx W

theorem isBad_any (x : Int) (hx : u8 x) (w : World) : Calls Tryz.prog 156 #[.int .u8 x] w fun e w' => e = .returned (.bool (badB x)) ∧ w = w' := by
  obtain ⟨h1, h2⟩ := hx
  obtain ⟨b1, hb1⟩ : ∃ b, decide (4 < x) = b := ⟨_, rfl⟩
  obtain ⟨b2, hb2⟩ : ∃ b, (x != 9) = b := ⟨_, rfl⟩
  have HB : RowKit.Hid (badB x = (b1 && b2)) := Lib.hid (by unfold badB; rw [hb1, hb2])
  cases b1
  · clear hb2
    go_enter Tryz.func156, Tryz.ntmps156
    go_wp2
    go_ret
    exact ⟨ret_bool (by rw [HB.out]; rfl), rfl⟩
  cases b2
  all_goals
    go_enter Tryz.func156, Tryz.ntmps156
    go_wp2
    go_ret
    exact ⟨ret_bool (by rw [HB.out]; rfl), rfl⟩
set_option maxRecDepth 100000 in
set_option maxHeartbeats 3200000 in
theorem index_u8 (b off n c : Nat) (xs : List Int) (hn : xs.length = n) (hb : n ≤ 1000) (hx : ∀ x ∈ xs, u8 x) (w : World) (hc : ∀ j x, xs[j]? = some x → w.cell? ⟨b, off + j, none⟩ = some (.int .u8 x)) :
    Calls Tryz.prog 198 #[.slice (some ⟨b, off, none⟩) n c, .func (.func 156) #[] #[]] w fun e w' => e = .returned (.int .i64 (idxP badB xs)) ∧ w = w' := by
  have HN := Lib.hid hn
  have HC := Lib.hid hc
  have HX := Lib.hid hx
  have eg := e156
  clear hn hc hx
  go_enter Tryz.func198, Tryz.ntmps198
  go_wp2_with fail
  go_loop [8] (fun i => ∃ k : Nat, k ≤ n ∧ i = .int .i64 k ∧ (∀ j x, j < k → xs[j]? = some x → badB x = false)) (fun i => n - (intOf i).toNat)
  case atStart => exact ⟨0, by omega, by first | rfl | go_num, fun j x hj => by omega⟩
  case round =>
    obtain ⟨k, hk, rfl, ho⟩ := hrel
    have Ho := Lib.hid ho
    clear ho
    by_cases hlt : k < n
    · obtain ⟨x, hx⟩ : ∃ x, xs[k]? = some x := ⟨_, List.getElem?_eq_getElem (by rw [HN.out]; exact hlt)⟩
      have c0 := HC.out k x hx
      have hok := HX.out x (List.mem_of_getElem? hx)
      have Hx := Lib.hid hx
      obtain ⟨q, hq⟩ : ∃ q, badB x = q := ⟨_, rfl⟩
      have HQ := Lib.hid hq
      have HCL : RowKit.Hid (∀ W, Calls Tryz.prog 156 #[.int .u8 x] W fun e w' => e = .returned (.bool q) ∧ W = w') := Lib.hid (fun W => by rw [← hq]; exact isBad_any x hok W)
      clear hq hx hok
      go_wp2_with fail
      refine (HCL.out _).mono ?_
      rintro e w1 ⟨rfl, rfl⟩
      cases q
      · go_wp2
        go_round
        case rel =>
          refine ⟨k + 1, by omega, by go_num, fun j y hj hy => ?_⟩
          rcases Nat.lt_or_eq_of_le (Nat.le_of_lt_succ hj) with h | h
          · exact Ho.out j y h hy
          · subst h
            have := Hx.out
            rw [hy] at this
            cases this
            exact HQ.out
        case measure => simp [intOf]; omega
      · go_wp2
        go_ret
        exact ⟨ret_int (idxP_at Hx.out HQ.out Ho.out).symm, rfl⟩
    · obtain rfl : k = n := by omega
      go_wp2
      go_ret
      exact ⟨ret_int (idxP_none (fun j y hy => Ho.out j y (by rw [← HN.out]; exact (List.getElem?_eq_some_iff.1 hy).1) hy)).symm, rfl⟩
theorem contains_u8 (b off n c : Nat) (xs : List Int) (hn : xs.length = n) (hb : n ≤ 1000) (hx : ∀ x ∈ xs, u8 x) (w : World) (hc : ∀ j x, xs[j]? = some x → w.cell? ⟨b, off + j, none⟩ = some (.int .u8 x)) :
    Calls Tryz.prog 155 #[.slice (some ⟨b, off, none⟩) n c, .func (.func 156) #[] #[]] w fun e w' => e = .returned (.bool (xs.any badB)) ∧ w = w' := by
  have HI := Lib.hid (index_u8 b off n c xs hn hb hx w hc)
  clear hn hx hc
  go_enter Tryz.func155, Tryz.ntmps155
  go_wp2_with fail
  refine HI.out.mono ?_
  rintro e w1 ⟨rfl, rfl⟩
  go_wp2
  go_ret
  exact ⟨ret_bool (idxP_nonneg badB xs), rfl⟩
theorem isSight_any (s : Sg) (hs : s.ok) (w : World) : Calls Tryz.prog 89 #[.agg #[.int .u8 s.s0, .int .u8 s.s1, .int .u8 s.s2, .int .u8 s.s3, .int .u8 s.s4, .int .u8 s.s5]] w fun e w' => e = .returned (.bool (sightB s)) ∧ Kept w w' := by
  obtain ⟨W0, hW0⟩ : ∃ W0, W0 = w.alloc (.cells #[.int .u8 s.s0, .int .u8 s.s1, .int .u8 s.s2, .int .u8 s.s3, .int .u8 s.s4, .int .u8 s.s5] 39) := ⟨_, rfl⟩
  have K0 : RowKit.Hid (Kept w W0) := Lib.hid (by rw [hW0]; exact (Kept.refl _).alloc _)
  have R0 : RowKit.Hid (RowC W0 w.heap.size (sgV s)) := Lib.hid (by rw [hW0]; exact RowC.new w (sgV s) 39)
  have HW := Lib.hid hW0
  have HM : RowKit.Hid (Calls Tryz.prog 155 #[.slice (some ⟨w.heap.size, 0, none⟩) 6 6, .func (.func 156) #[] #[]] W0 fun e w' => e = .returned (.bool (s.l.any badB)) ∧ W0 = w') := Lib.hid (contains_u8 _ 0 6 6 s.l rfl (by omega) (Sg.ok_l hs) W0 (fun j x hj => by rw [Nat.zero_add]; exact (R0.out j _ (sgV_at hj)).1))
  have la := cell_lt (R0.out 0 _ rfl).1
  clear hW0
  go_enter Tryz.func89, Tryz.ntmps89
  go_upto_region 1 with (fail)
  rw [← HW.out]
  go_wp2_with fail
  refine HM.out.mono ?_
  rintro e w1 ⟨rfl, rfl⟩
  go_wp2
  go_ret
  exact ⟨rfl, K0.out⟩
theorem pred89 (w : World) : PredG sgV Sg.ok 89 #[] sightB w := fun W x hx _ => isSight_any x hx W

/-- the first error -/
def fstE : List Int → Int
  | [] => 0
  | e :: l => if e = 0 then fstE l else e
theorem fstE_at : ∀ (l : List Int) (k : Nat) (e : Int), l[k]? = some e → e ≠ 0 → (∀ (j : Nat) x, j < k → l[j]? = some x → x = 0) → fstE l = e
  | [], k, e, h, _, _ => by simp at h
  | x :: l, 0, e, h, he, _ => by
    simp at h; subst h
    unfold fstE; rw [if_neg he]
  | x :: l, k + 1, e, h, he, ho => by
    have hx : x = 0 := ho 0 x (by omega) (by simp)
    unfold fstE; rw [if_pos hx]
    exact fstE_at l k e (by simpa using h) he (fun j y hj hy => ho (j + 1) y (by omega) (by simpa using hy))
theorem fstE_zero : ∀ (l : List Int), (∀ (j : Nat) x, l[j]? = some x → x = 0) → fstE l = 0
  | [], _ => rfl
  | x :: l, ho => by
    have hx : x = 0 := ho 0 x (by simp)
    unfold fstE; rw [if_pos hx]
    exact fstE_zero l (fun j y hy => ho (j + 1) y (by simpa using hy))
set_option maxHeartbeats 3200000 in
theorem firstError_any (b off n c : Nat) (xs : List Int) (hn : xs.length = n) (hb : n ≤ 1000) (w : World) (hc : ∀ j x, xs[j]? = some x → w.cell? ⟨b, off + j, none⟩ = some (.int .i64 x)) :
    Calls Tryz.prog 73 #[.slice (some ⟨b, off, none⟩) n c] w fun e w' => e = .returned (.int .i64 (fstE xs)) ∧ w = w' := by
  have HN := Lib.hid hn
  have HC := Lib.hid hc
  clear hn hc
  go_enter Tryz.func73, Tryz.ntmps73
  go_wp2_with fail
  go_loop [7] (fun i => ∃ k : Nat, k ≤ n ∧ i = .int .i64 k ∧ (∀ j x, j < k → xs[j]? = some x → x = 0)) (fun i => n - (intOf i).toNat)
  case atStart => exact ⟨0, by omega, by first | rfl | go_num, fun j x hj => by omega⟩
  case round =>
    obtain ⟨k, hk, rfl, ho⟩ := hrel
    have Ho := Lib.hid ho
    clear ho
    by_cases hlt : k < n
    · obtain ⟨x, hx⟩ : ∃ x, xs[k]? = some x := ⟨_, List.getElem?_eq_getElem (by rw [HN.out]; exact hlt)⟩
      have c0 := HC.out k x hx
      have Hx := Lib.hid hx
      clear hx
      by_cases hz : x = 0
      · subst hz
        go_wp2
        go_round
        case rel =>
          refine ⟨k + 1, by omega, by go_num, fun j y hj hy => ?_⟩
          rcases Nat.lt_or_eq_of_le (Nat.le_of_lt_succ hj) with h | h
          · exact Ho.out j y h hy
          · subst h
            have := Hx.out
            rw [hy] at this
            cases this
            rfl
        case measure => simp [intOf]; omega
      · have hne : (x != 0) = true := by simpa using hz
        have HZ := Lib.hid hz
        clear hz
        go_wp2
        go_ret
        exact ⟨ret_int (fstE_at xs k x Hx.out HZ.out Ho.out).symm, rfl⟩
    · obtain rfl : k = n := by omega
      go_wp2
      go_ret
      exact ⟨ret_int (fstE_zero xs (fun j y hy => Ho.out j y (by rw [← HN.out]; exact (List.getElem?_eq_some_iff.1 hy).1) hy)).symm, rfl⟩
end Go.Proofs.YtologmoanaccpaaGreatDoor
