/-
  Sum of intervals
  Sum of intervals: the walk
-/
import Derived.Test.YtologmoanaccpaaDoorTj
import Derived.Test.YtologmoanaccpaaDoorBa
import Derived.Laws.AppendOwn
import Derived.Laws.OwnMore
import Derived.Deep.AppendLies
import Derived.Shelf.Abstract
import Derived.Defers
import Derived.Recover
import Derived.OwnWalk
import Derived.Maps.AppendAt
import Derived.WalkSpells
import Derived.RangeFuncBox
namespace Go.Proofs.YtologmoanaccpaaDoor.Tly
set_option linter.all false
open Go.RowKit Go.Shelf
attribute [local go_sem] Oper.semAt_some
/-- an interval without numbers; one that is valid -/
def empB (a b : Int) (s : Bool) : Bool := decide (a = 0) && decide (b = 0) && !s
def validB (a b : Int) (s : Bool) : Bool := empB a b s || (s && inB a 0 100000000 && inB b 0 100000000 && decide (a ≤ b))
theorem empty_any (a b : Int) (s : Bool) (w : World) :
    Calls Tryd.prog 35 #[.agg #[.int .i64 a, .int .i64 b, .bool s]] w fun e w' => e = .returned (.bool (empB a b s)) ∧ Kept w w' := by
  by_cases h1 : a = 0 <;> by_cases h2 : b = 0 <;> cases s
  all_goals
    first
      | subst h1; subst h2
      | subst h1
      | subst h2
      | skip
    go_enter Tryd.func35, Tryd.ntmps35
    go_wp2
    go_ret
    exact ⟨ret_bool (by simp [empB]; try omega), (Kept.refl _).alloc _⟩
theorem to_any (a b : Int) (w : World) :
    Calls Tryd.prog 38 #[.int .i64 a, .int .i64 b] w fun e w' => e = .returned (.agg #[.int .i64 (spL a b), .int .i64 (spH a b), .bool (spS a b)]) ∧ Kept w w' := by
  by_cases h : a ≤ b
  · have e0 : spL a b = a := if_pos h
    have e1 : spH a b = b := if_pos h
    have e2 : spS a b = true := decide_eq_true h
    rw [e0, e1, e2]
    clear e0 e1 e2
    go_enter Tryd.func38, Tryd.ntmps38
    go_wp2
    exact bodyPost_ret (v := .agg #[.int .i64 a, .int .i64 b, .bool true]) (by simp [results, Tryd.results38, go_sem]) rfl ⟨rfl, (Kept.refl _).alloc _⟩
  · have e0 : spL a b = 0 := if_neg h
    have e1 : spH a b = 0 := if_neg h
    have e2 : spS a b = false := decide_eq_false h
    rw [e0, e1, e2]
    clear e0 e1 e2
    go_enter Tryd.func38, Tryd.ntmps38
    go_wp2
    exact bodyPost_ret (v := .agg #[.int .i64 0, .int .i64 0, .bool false]) (by simp [results, Tryd.results38, go_sem]) rfl ⟨rfl, (Kept.refl _).alloc _⟩
theorem within2' (lo hi : Int) (b c : Nat) (x y : Int) (w : World) (h : w.cell? ⟨b, 0, none⟩ = some (.int .i64 x)) (h1 : w.cell? ⟨b, 1, none⟩ = some (.int .i64 y)) (r : Bool) (hr : (inB x lo hi && inB y lo hi) = r) :
    Calls Tryd.prog 55 #[.int .i64 lo, .int .i64 hi, .slice (some ⟨b, 0, none⟩) 2 c] w fun e w' => e = .returned (.bool r) ∧ w' = w := by rw [← hr]; exact within2 lo hi b c x y w h h1

theorem spanValid_any (a b : Int) (s : Bool) (w : World) :
    Calls Tryd.prog 33 #[.agg #[.int .i64 a, .int .i64 b, .bool s]] w fun e w' => e = .returned (.bool (validB a b s)) ∧ Kept w w' := by
  obtain ⟨W0, hW0⟩ : ∃ W0, W0 = w.alloc (.cells #[.int .i64 a, .int .i64 b, .bool s] 82) := ⟨_, rfl⟩
  have k0 : Kept w W0 := by rw [hW0]; exact ((Kept.refl _).alloc _)
  have c00 : W0.cell? ⟨w.heap.size, 0, none⟩ = some (.int .i64 a) := by rw [hW0]; exact cellNew (by simp) rfl
  have c01 : W0.cell? ⟨w.heap.size, 1, none⟩ = some (.int .i64 b) := by rw [hW0]; exact cellNew (by simp) rfl
  have c02 : W0.cell? ⟨w.heap.size, 2, none⟩ = some (.bool s) := by rw [hW0]; exact cellNew (by simp) rfl
  have BR : RowKit.Hid (∀ W, Kept W0 W → W.cell? ⟨w.heap.size, 0, none⟩ = some (.int .i64 a) ∧ W.cell? ⟨w.heap.size, 1, none⟩ = some (.int .i64 b) ∧ W.cell? ⟨w.heap.size, 2, none⟩ = some (.bool s)) := Lib.hid (fun W hW => ⟨(hW.cells _ _ (cell_lt c00)).trans c00, (hW.cells _ _ (cell_lt c01)).trans c01, (hW.cells _ _ (cell_lt c02)).trans c02⟩)
  have Z0 : W0.heap.size = w.heap.size + 1 := by rw [hW0]; simp
  have ZZ := Lib.hid Z0
  have HW := Lib.hid hW0
  have K0 := Lib.hid k0
  clear hW0 k0 Z0
  have kk := Kept.refl W0
  have b0 := cell_lt c00
  rcases he : empB a b s with _ | _
  · have HE : RowKit.Hid (∀ W, Calls Tryd.prog 35 #[.agg #[.int .i64 a, .int .i64 b, .bool s]] W fun e w' => e = .returned (.bool false) ∧ Kept W w') := Lib.hid (fun W => by rw [← he]; exact empty_any a b s W)
    cases s
    · have HS : RowKit.Hid (validB a b false = false) := Lib.hid (by simp [validB, he])
      clear he
      go_enter Tryd.func33, Tryd.ntmps33
      go_upto_region 1 with (fail)
      rw [← HW.out]
      go_wp2_with (first
        | (go_at_call 35; refine (HE.out _).mono ?_; rintro e w1 ⟨rfl, hk⟩; replace kk := (by first | with_reducible exact kk.trans hk | with_reducible exact (kk.alloc _).trans hk | with_reducible exact kk.drew.trans hk | with_reducible exact (kk.drew.alloc _).trans hk | with_reducible exact (kk.alloc _).drew.trans hk | with_reducible exact ((kk.alloc _).alloc _).trans hk | with_reducible exact ((kk.drew.alloc _).alloc _).trans hk | fail); obtain ⟨c00, c01, c02⟩ := BR.out _ kk; have b0 := cell_lt c00)
        | fail)
      go_ret
      exact ⟨ret_bool HS.out.symm, K0.out.trans (by first | with_reducible exact kk | with_reducible exact kk.alloc _ | with_reducible exact kk.drew | with_reducible exact kk.drew.alloc _ | with_reducible exact (kk.alloc _).alloc _ | fail)⟩
    · rcases hi : (inB a 0 100000000 && inB b 0 100000000) with _ | _
      · have HS : RowKit.Hid (validB a b true = false) := Lib.hid (by simp [validB, he]; simp at hi; intro h1 h2; rw [hi h1] at h2; cases h2)
        have HI := Lib.hid hi
        clear he hi
        go_enter Tryd.func33, Tryd.ntmps33
        go_upto_region 1 with (fail)
        rw [← HW.out]
        go_wp2_with (first
        | (go_at_call 35; refine (HE.out _).mono ?_; rintro e w1 ⟨rfl, hk⟩; replace kk := (by first | with_reducible exact kk.trans hk | with_reducible exact (kk.alloc _).trans hk | with_reducible exact kk.drew.trans hk | with_reducible exact (kk.drew.alloc _).trans hk | with_reducible exact (kk.alloc _).drew.trans hk | with_reducible exact ((kk.alloc _).alloc _).trans hk | with_reducible exact ((kk.drew.alloc _).alloc _).trans hk | fail); obtain ⟨c00, c01, c02⟩ := BR.out _ kk; have b0 := cell_lt c00)
        | (go_at_call 55; refine (within2' _ _ _ _ a b _ (cellNew (by simp) rfl) (cellNew (by simp) rfl) _ HI.out).mono ?_; rintro e w1 ⟨rfl, rfl⟩)
        | fail)
        go_ret
        exact ⟨ret_bool HS.out.symm, K0.out.trans (by first | with_reducible exact kk | with_reducible exact kk.alloc _ | with_reducible exact kk.drew | with_reducible exact kk.drew.alloc _ | with_reducible exact (kk.alloc _).alloc _ | fail)⟩
      · have HS : RowKit.Hid (validB a b true = decide (a ≤ b)) := Lib.hid (by simp [validB, he]; simp at hi; simp [hi])
        have HI := Lib.hid hi
        clear he hi
        go_enter Tryd.func33, Tryd.ntmps33
        go_upto_region 1 with (fail)
        rw [← HW.out]
        go_wp2_with (first
        | (go_at_call 35; refine (HE.out _).mono ?_; rintro e w1 ⟨rfl, hk⟩; replace kk := (by first | with_reducible exact kk.trans hk | with_reducible exact (kk.alloc _).trans hk | with_reducible exact kk.drew.trans hk | with_reducible exact (kk.drew.alloc _).trans hk | with_reducible exact (kk.alloc _).drew.trans hk | with_reducible exact ((kk.alloc _).alloc _).trans hk | with_reducible exact ((kk.drew.alloc _).alloc _).trans hk | fail); obtain ⟨c00, c01, c02⟩ := BR.out _ kk; have b0 := cell_lt c00)
        | (go_at_call 55; refine (within2' _ _ _ _ a b _ (cellNew (by simp) rfl) (cellNew (by simp) rfl) _ HI.out).mono ?_; rintro e w1 ⟨rfl, rfl⟩)
        | fail)
        go_ret
        exact ⟨ret_bool HS.out.symm, K0.out.trans (by first | with_reducible exact kk | with_reducible exact kk.alloc _ | with_reducible exact kk.drew | with_reducible exact kk.drew.alloc _ | with_reducible exact (kk.alloc _).alloc _ | fail)⟩
  · have HE : RowKit.Hid (∀ W, Calls Tryd.prog 35 #[.agg #[.int .i64 a, .int .i64 b, .bool s]] W fun e w' => e = .returned (.bool true) ∧ Kept W w') := Lib.hid (fun W => by rw [← he]; exact empty_any a b s W)
    have HS : RowKit.Hid (validB a b s = true) := Lib.hid (by simp [validB, he])
    clear he
    go_enter Tryd.func33, Tryd.ntmps33
    go_upto_region 1 with (fail)
    rw [← HW.out]
    go_wp2_with (first
        | (go_at_call 35; refine (HE.out _).mono ?_; rintro e w1 ⟨rfl, hk⟩; replace kk := (by first | with_reducible exact kk.trans hk | with_reducible exact (kk.alloc _).trans hk | with_reducible exact kk.drew.trans hk | with_reducible exact (kk.drew.alloc _).trans hk | with_reducible exact (kk.alloc _).drew.trans hk | with_reducible exact ((kk.alloc _).alloc _).trans hk | with_reducible exact ((kk.drew.alloc _).alloc _).trans hk | fail); obtain ⟨c00, c01, c02⟩ := BR.out _ kk; have b0 := cell_lt c00)
        | fail)
    go_ret
    exact ⟨ret_bool HS.out.symm, K0.out.trans (by first | with_reducible exact kk | with_reducible exact kk.alloc _ | with_reducible exact kk.drew | with_reducible exact kk.drew.alloc _ | with_reducible exact (kk.alloc _).alloc _ | fail)⟩
theorem valid_bd {a b : Int} {s : Bool} (h : validB a b s = true) : 0 ≤ a ∧ a ≤ 100000000 ∧ 0 ≤ b ∧ b ≤ 100000000 ∧ a ≤ b := by
  unfold validB empB at h
  simp only [Bool.or_eq_true, Bool.and_eq_true, decide_eq_true_eq, inB_iff] at h
  omega
theorem valid_b (a b : Int) (s r : Bool) (h : validB a b s = r) (w : World) :
    Calls Tryd.prog 33 #[.agg #[.int .i64 a, .int .i64 b, .bool s]] w fun e w' => e = .returned (.bool r) ∧ Kept w w' := by rw [← h]; exact spanValid_any a b s w
theorem RowC.atn {W : World} {vs : List Value} {t : TypeId} {m : Nat} (h : W.heap.size = m) : RowC (W.alloc (.cells vs.toArray t)) m vs := by subst h; exact RowC.new W vs t
structure Iv where
  lo : Int
  hi : Int
  so : Bool
def ivCells (x : Iv) : List Value := [.int .i64 x.lo, .int .i64 x.hi, .bool x.so]
/-- elements of k cells each, as a table -/
def TabK (k : Nat) {α : Type} (cl : α → List Value) (w : World) (b off : Nat) (xs : List α) : Prop := ∀ i x, xs[i]? = some x → ∀ j v, (cl x)[j]? = some v → w.cell? ⟨b, off + i * k + j, none⟩ = some v
def SliK (k : Nat) {α : Type} (cl : α → List Value) (w : World) (A : Option Addr) (n c : Nat) (xs : List α) : Prop :=
  xs.length = n ∧ n ≤ c ∧ c ≤ 9223372036854775807 ∧ (0 < n → ∃ b off, A = some ⟨b, off, none⟩ ∧ TabK k cl w b off xs)
theorem SliK.kept {k : Nat} {α : Type} {cl : α → List Value} {w w' : World} {A : Option Addr} {n c : Nat} {xs : List α} (h : SliK k cl w A n c xs) (hk : Kept w w') : SliK k cl w' A n c xs :=
  ⟨h.1, h.2.1, h.2.2.1, fun hn => by
    obtain ⟨b, off, e, ht⟩ := h.2.2.2 hn
    exact ⟨b, off, e, fun i x hx j v hv => (hk.cells _ _ (cell_lt (ht i x hx j v hv))).trans (ht i x hx j v hv)⟩⟩
/-- intervals: all valid, all with numbers, the sums of their ends -/
def ivOk (l : List Iv) : Bool := l.all (fun x => validB x.lo x.hi x.so)
def ivSo (l : List Iv) : Bool := l.all (fun x => x.so)
def ivLo (l : List Iv) : Int := (l.map Iv.lo).sum
def ivHi (l : List Iv) : Int := (l.map Iv.hi).sum
def sumX (l : List Iv) : (Int × Int × Bool) × Int :=
  if 200 < l.length then ((0, 0, false), 2) else if ivOk l = true then (if ivSo l = true then (if 100000000 < ivHi l then ((0, 0, false), 2) else (spI (ivLo l) (ivHi l), 0)) else ((0, 0, false), 0)) else ((0, 0, false), 1)
theorem iv_snoc {xs : List Iv} {k : Nat} {x : Iv} (h : xs[k]? = some x) :
    ivOk (xs.take (k + 1)) = (ivOk (xs.take k) && validB x.lo x.hi x.so) ∧ ivSo (xs.take (k + 1)) = (ivSo (xs.take k) && x.so) ∧ ivLo (xs.take (k + 1)) = ivLo (xs.take k) + x.lo ∧ ivHi (xs.take (k + 1)) = ivHi (xs.take k) + x.hi := by
  have e := take_snoc' h
  unfold ivOk ivSo ivLo ivHi
  rw [e]
  simp
theorem iv_bad {xs : List Iv} {k : Nat} {x : Iv} (h : xs[k]? = some x) (hb : validB x.lo x.hi x.so = false) : ivOk xs = false := by
  unfold ivOk
  rw [List.all_eq_false]
  exact ⟨x, List.mem_of_getElem? h, by simp [hb]⟩
theorem iv_bd : ∀ (l : List Iv), ivOk l = true → 0 ≤ ivLo l ∧ ivLo l ≤ l.length * 100000000 ∧ 0 ≤ ivHi l ∧ ivHi l ≤ l.length * 100000000 ∧ ivLo l ≤ ivHi l
  | [], _ => by simp [ivLo, ivHi]
  | x :: l, h => by
    unfold ivOk at h
    rw [List.all_cons, Bool.and_eq_true] at h
    have h1 := valid_bd h.1
    have h2 := iv_bd l h.2
    unfold ivLo ivHi at h2 ⊢
    simp only [List.map_cons, List.sum_cons, List.length_cons]
    push_cast
    omega

def limPanic : List PanicEntry := [{ v := .iface 31 (.int .i64 2), recovered := false }]
set_option maxRecDepth 100000 in
set_option maxHeartbeats 2000000 in
theorem plus_ok (a b : Int) (s : Bool) (c d : Int) (t : Bool) (ha : 0 ≤ a ∧ a ≤ 100000000) (hb : 0 ≤ b ∧ b ≤ 100000000) (hc : 0 ≤ c ∧ c ≤ 100000000) (hd : 0 ≤ d ∧ d ≤ 100000000) (h1 : b + d ≤ 100000000) (h2 : a + c ≤ b + d) (w : World) :
    Calls Tryd.prog 39 #[.agg #[.int .i64 a, .int .i64 b, .bool s], .agg #[.int .i64 c, .int .i64 d, .bool t]] w fun e w' => e = .returned (.agg #[.int .i64 (a + c), .int .i64 (b + d), .bool true]) ∧ Kept w w' := by
  obtain ⟨W0, hW0⟩ : ∃ W0, W0 = ((w.alloc (.cells #[.int .i64 a, .int .i64 b, .bool s] 82)).alloc (.cells #[.int .i64 c, .int .i64 d, .bool t] 82)).alloc (.cells #[.int .i64 0, .int .i64 0, .bool false] 82) := ⟨_, rfl⟩
  have k0 : Kept w W0 := by rw [hW0]; exact ((((Kept.refl _).alloc _).alloc _).alloc _)
  have c00 : W0.cell? ⟨w.heap.size, 0, none⟩ = some (.int .i64 a) := by rw [hW0]; exact cellOld _ (cellOld _ (cellNew (by simp) rfl))
  have c01 : W0.cell? ⟨w.heap.size, 1, none⟩ = some (.int .i64 b) := by rw [hW0]; exact cellOld _ (cellOld _ (cellNew (by simp) rfl))
  have c02 : W0.cell? ⟨w.heap.size, 2, none⟩ = some (.bool s) := by rw [hW0]; exact cellOld _ (cellOld _ (cellNew (by simp) rfl))
  have c10 : W0.cell? ⟨w.heap.size + 1, 0, none⟩ = some (.int .i64 c) := by rw [hW0]; exact cellOld _ (cellNew (by simp) rfl)
  have c11 : W0.cell? ⟨w.heap.size + 1, 1, none⟩ = some (.int .i64 d) := by rw [hW0]; exact cellOld _ (cellNew (by simp) rfl)
  have c12 : W0.cell? ⟨w.heap.size + 1, 2, none⟩ = some (.bool t) := by rw [hW0]; exact cellOld _ (cellNew (by simp) rfl)
  have c20 : W0.cell? ⟨w.heap.size + 1 + 1, 0, none⟩ = some (.int .i64 0) := by rw [hW0]; exact cellNew (by simp) rfl
  have f20 : W0.frozen? ⟨w.heap.size + 1 + 1, 0, none⟩ = false := by rw [hW0]; simp [go_sem]
  have c21 : W0.cell? ⟨w.heap.size + 1 + 1, 1, none⟩ = some (.int .i64 0) := by rw [hW0]; exact cellNew (by simp) rfl
  have f21 : W0.frozen? ⟨w.heap.size + 1 + 1, 1, none⟩ = false := by rw [hW0]; simp [go_sem]
  have c22 : W0.cell? ⟨w.heap.size + 1 + 1, 2, none⟩ = some (.bool false) := by rw [hW0]; exact cellNew (by simp) rfl
  have f22 : W0.frozen? ⟨w.heap.size + 1 + 1, 2, none⟩ = false := by rw [hW0]; simp [go_sem]
  have BR : RowKit.Hid (∀ W, Kept W0 W → W.cell? ⟨w.heap.size, 0, none⟩ = some (.int .i64 a) ∧ W.cell? ⟨w.heap.size, 1, none⟩ = some (.int .i64 b) ∧ W.cell? ⟨w.heap.size, 2, none⟩ = some (.bool s) ∧ W.cell? ⟨w.heap.size + 1, 0, none⟩ = some (.int .i64 c) ∧ W.cell? ⟨w.heap.size + 1, 1, none⟩ = some (.int .i64 d) ∧ W.cell? ⟨w.heap.size + 1, 2, none⟩ = some (.bool t) ∧ W.cell? ⟨w.heap.size + 1 + 1, 0, none⟩ = some (.int .i64 0) ∧ W.frozen? ⟨w.heap.size + 1 + 1, 0, none⟩ = false ∧ W.cell? ⟨w.heap.size + 1 + 1, 1, none⟩ = some (.int .i64 0) ∧ W.frozen? ⟨w.heap.size + 1 + 1, 1, none⟩ = false ∧ W.cell? ⟨w.heap.size + 1 + 1, 2, none⟩ = some (.bool false) ∧ W.frozen? ⟨w.heap.size + 1 + 1, 2, none⟩ = false) := Lib.hid (fun W hW => ⟨(hW.cells _ _ (cell_lt c00)).trans c00, (hW.cells _ _ (cell_lt c01)).trans c01, (hW.cells _ _ (cell_lt c02)).trans c02, (hW.cells _ _ (cell_lt c10)).trans c10, (hW.cells _ _ (cell_lt c11)).trans c11, (hW.cells _ _ (cell_lt c12)).trans c12, (hW.cells _ _ (cell_lt c20)).trans c20, (hW.frozens _ _ (cell_lt c20)).trans f20, (hW.cells _ _ (cell_lt c21)).trans c21, (hW.frozens _ _ (cell_lt c21)).trans f21, (hW.cells _ _ (cell_lt c22)).trans c22, (hW.frozens _ _ (cell_lt c22)).trans f22⟩)
  have Z0 : W0.heap.size = w.heap.size + 1 + 1 + 1 := by rw [hW0]; simp
  have ZZ := Lib.hid Z0
  have HW := Lib.hid hW0
  have K0 := Lib.hid k0
  clear hW0 k0 Z0
  have kk := Kept.refl W0
  have b0 := cell_lt c00
  have b1 := cell_lt c10
  have b2 := cell_lt c20
  have hw1 : IntKind.i64.wrap (b + d) = b + d := IntWalk.i64_in _ (by omega)
  have hw2 : IntKind.i64.wrap (a + c) = a + c := IntWalk.i64_in _ (by omega)
  obtain ⟨u, hu⟩ : ∃ u, u = a + c := ⟨_, rfl⟩
  obtain ⟨v, hv⟩ : ∃ v, v = b + d := ⟨_, rfl⟩
  have HC : RowKit.Hid (∀ W, Calls Tryd.prog 38 #[.int .i64 (a + c), .int .i64 (b + d)] W fun e w' => e = .returned (.agg #[.int .i64 (a + c), .int .i64 (b + d), .bool true]) ∧ Kept W w') := Lib.hid (fun W => (to_any (a + c) (b + d) W).mono fun _ _ ⟨he, hk⟩ => ⟨by rw [he]; simp [spL, spH, spS, h2], hk⟩)
  go_enter Tryd.func39, Tryd.ntmps39
  go_upto_region 1 with (fail)
  rw [← HW.out]
  go_wp2_with (first
        | (go_at_call 38; refine (HC.out _).mono ?_; rintro e w1 ⟨rfl, hk⟩; replace kk := (by first | with_reducible exact kk.trans hk | with_reducible exact (kk.alloc _).trans hk | with_reducible exact kk.drew.trans hk | with_reducible exact (kk.drew.alloc _).trans hk | with_reducible exact (kk.alloc _).drew.trans hk | with_reducible exact ((kk.alloc _).alloc _).trans hk | with_reducible exact ((kk.drew.alloc _).alloc _).trans hk | fail); obtain ⟨c00, c01, c02, c10, c11, c12, c20, f20, c21, f21, c22, f22⟩ := BR.out _ kk; have b0 := cell_lt c00; have b1 := cell_lt c10; have b2 := cell_lt c20)
        | fail)
  refine bodyPost_ret (v := .agg #[.int .i64 (a + c), .int .i64 (b + d), .bool true]) (by simp [results, Tryd.results39, go_sem, c20, c21, c22]) rfl ⟨rfl, ?_⟩
  exact (((K0.out.trans kk).setCell (by simp; try omega) _).setCell (by simp; try omega) _).setCell (by simp; try omega) _
set_option maxRecDepth 100000 in
set_option maxHeartbeats 2000000 in
theorem plus_lim (a b : Int) (s : Bool) (c d : Int) (t : Bool) (hb : 0 ≤ b ∧ b ≤ 100000000) (hd : 0 ≤ d ∧ d ≤ 100000000) (h1 : 100000000 < b + d) (w : World) :
    Calls Tryd.prog 39 #[.agg #[.int .i64 a, .int .i64 b, .bool s], .agg #[.int .i64 c, .int .i64 d, .bool t]] w fun e w' => e = .panicked limPanic ∧ Kept w w' := by
  have hw1 : IntKind.i64.wrap (b + d) = b + d := IntWalk.i64_in _ (by omega)
  go_enter Tryd.func39, Tryd.ntmps39
  go_wp2
  exact ⟨rfl, rfl, (((Kept.refl w).alloc _).alloc _).alloc _⟩

theorem catch_idle (p q : Addr) (w : World) :
    CallsD Tryd.prog 36 #[.pointer (some p), .pointer (some q)] .returning w fun e u' w' => e = .returned (.tuple #[]) ∧ u' = .returning ∧ w' = w := by
  refine callsD_of_wpS Tryd.func36 rfl fun c₀ cs hu => ?_
  apply wpS_seq
  apply wpS_region
  simp [wpOpsS, go_sem, recoverD, hu, Tryd.ntmps36, Exit.thenS]
  refine wpS_cond (t := false) (by simp [Act.eval, Array.replicate]) ?_
  simp only [Bool.false_eq_true, if_false]
  refine wpS_of_wp (wp_skip ?_)
  cases c₀
  simp_all [bodyPostS, results, Tryd.results36]
theorem catch_panicking (b c : Nat) (u0 u1 u2 u3 : Value) (u : TypeId) (pv : Value) (older : List PanicEntry) (w : World) (hbc : b ≠ c) (h0 : w.cell? ⟨b, 0, none⟩ = some u0) (h1 : w.cell? ⟨b, 1, none⟩ = some u1) (h3 : w.cell? ⟨b, 2, none⟩ = some u3) (h2 : w.cell? ⟨c, 0, none⟩ = some u2)
    (f0 : w.frozen? ⟨b, 0, none⟩ = false) (f1 : w.frozen? ⟨b, 1, none⟩ = false) (f3 : w.frozen? ⟨b, 2, none⟩ = false) (f2 : w.frozen? ⟨c, 0, none⟩ = false) :
    CallsD Tryd.prog 36 #[.pointer (some ⟨b, 0, none⟩), .pointer (some ⟨c, 0, none⟩)] (.panicking ({ v := .iface u pv, recovered := false } :: older)) w fun e u' w' =>
      e = .returned (.tuple #[]) ∧ u' = .panicking ({ v := .iface u pv, recovered := true } :: older) ∧ w' = (((w.setCell ⟨b, 0, none⟩ (.int .i64 0)).setCell ⟨b, 1, none⟩ (.int .i64 0)).setCell ⟨b, 2, none⟩ (.bool false)).setCell ⟨c, 0, none⟩ (.int .i64 2) := by
  refine callsD_of_wpS Tryd.func36 rfl fun c₀ cs hu => ?_
  apply wpS_seq
  apply wpS_region
  simp [wpOpsS, go_sem, recoverD, hu, Tryd.ntmps36, Exit.thenS]
  refine wpS_cond (t := true) (by simp [Act.eval, Array.replicate]) ?_
  simp only [if_true]
  apply wpS_region
  simp [wpOpsS, go_sem, h0, h1, h2, h3, f0, f1, f2, f3, bodyPostS, results, Tryd.results36]
theorem e78 : ∀ args w, (callFunc 35 args).run Tryd.prog w = .ok (.enter 35 args) w := enters_of Tryd.func35 (by kernel_rfl) rfl
theorem e82 : ∀ args w, (callFunc 39 args).run Tryd.prog w = .ok (.enter 39 args) w := enters_of Tryd.func39 (by kernel_rfl) rfl
def emI (x : Iv) : Bool := empB x.lo x.hi x.so
/-- the index of the first empty one, or -1 -/
def emX (l : List Iv) : Int := if l.any emI = true then (l.findIdx emI : Nat) else -1

set_option maxRecDepth 100000 in
theorem indexEmpty_any (A : Option Addr) (n c : Nat) (xs : List Iv) (w : World) (hT : SliK 3 ivCells w A n c xs) (hlt : n ≤ 1000000) :
    Calls Tryd.prog 62 #[.slice A n c, .func (.func 35) #[] #[]] w fun e w' => e = .returned (.int .i64 (emX xs)) ∧ Kept w w' := by
  have HT := Lib.hid hT
  have hnc := hT.2.1
  have hcm := hT.2.2.1
  have e78 := e78
  clear hT
  go_enter Tryd.func62, Tryd.ntmps62
  go_wp2_with fail
  go_loopw [8] (fun i wr => ∃ k : Nat, k ≤ n ∧ i = .int .i64 k ∧ Kept w wr ∧ (∀ j x, j < k → xs[j]? = some x → emI x = false)) (fun i _ => n - (intOf i).toNat)
  case atStart => exact ⟨0, by omega, by first | rfl | go_num, Kept.refl _, fun j x hj => absurd hj (Nat.not_lt_zero _)⟩
  case round =>
    obtain ⟨k, hk, rfl, hkw, hf⟩ := hrel
    have HF := Lib.hid hf
    clear hf
    by_cases hlt2 : k < n
    · obtain ⟨b, off, hA, htab⟩ := HT.out.2.2.2 (by omega)
      subst hA
      have hxl : k < xs.length := by rw [HT.out.1]; exact hlt2
      obtain ⟨x, hx⟩ : ∃ x, xs[k]? = some x := ⟨xs[k]'hxl, List.getElem?_eq_getElem hxl⟩
      have HX := Lib.hid hx
      have q0 := (hkw.cells _ _ (cell_lt (htab k x hx 0 _ rfl))).trans (htab k x hx 0 _ rfl)
      have q1 := (hkw.cells _ _ (cell_lt (htab k x hx 1 _ rfl))).trans (htab k x hx 1 _ rfl)
      have q2 := (hkw.cells _ _ (cell_lt (htab k x hx 2 _ rfl))).trans (htab k x hx 2 _ rfl)
      simp only [Nat.add_zero] at q0
      clear htab hx
      obtain ⟨eb, heb⟩ : ∃ eb, eb = emI x := ⟨_, rfl⟩
      have HC : RowKit.Hid (∀ W, Calls Tryd.prog 35 #[.agg #[.int .i64 x.lo, .int .i64 x.hi, .bool x.so]] W fun e w' => e = .returned (.bool eb) ∧ Kept W w') := Lib.hid (fun W => by rw [heb]; exact empty_any x.lo x.hi x.so W)
      have HEB := Lib.hid heb
      clear heb
      cases eb
      · have HN : RowKit.Hid (∀ j y, j < k + 1 → xs[j]? = some y → emI y = false) := Lib.hid (fun j y hj hy => by
          rcases Nat.lt_or_eq_of_le (Nat.le_of_lt_succ hj) with h | h
          · exact HF.out j y h hy
          · subst h; have := HX.out; rw [hy] at this; cases this; exact HEB.out.symm)
        go_wp2_with (go_at_fn 35; refine (HC.out _).mono ?_; rintro e w3 ⟨rfl, hk3⟩)
        go_roundw
        case rel => exact ⟨k + 1, by omega, by go_num, hkw.trans hk3, HN.out⟩
        case measure => simp [intOf]; omega
      · have HS : RowKit.Hid (emX xs = (k : Int)) := Lib.hid (by
          have h1 : xs.any emI = true := by rw [List.any_eq_true]; exact ⟨x, List.mem_of_getElem? HX.out, HEB.out.symm⟩
          rw [emX, if_pos h1]
          congr 1
          rw [List.findIdx_eq hxl]
          refine ⟨?_, fun j hj => ?_⟩
          · have := (List.getElem?_eq_some_iff.1 HX.out).2; rw [this]; exact HEB.out.symm
          · exact HF.out j _ hj (List.getElem?_eq_getElem (by omega)))
        go_wp2_with (go_at_fn 35; refine (HC.out _).mono ?_; rintro e w3 ⟨rfl, hk3⟩)
        go_ret
        exact ⟨ret_int HS.out.symm, hkw.trans hk3⟩
    · obtain rfl : k = n := by omega
      have HS : RowKit.Hid (emX xs = -1) := Lib.hid (by
        have h1 : xs.any emI = false := by
          rw [List.any_eq_false]
          intro x hx
          obtain ⟨j, hj⟩ := List.getElem?_of_mem hx
          simp [HF.out j x (by rw [← HT.out.1]; exact (List.getElem?_eq_some_iff.1 hj).1) hj]
        rw [emX, if_neg (by rw [h1]; simp)])
      go_wp2
      go_ret
      exact ⟨ret_int HS.out.symm, hkw⟩
theorem hasEmpty_any (A : Option Addr) (n c : Nat) (xs : List Iv) (w : World) (hT : SliK 3 ivCells w A n c xs) (hlt : n ≤ 1000000) :
    Calls Tryd.prog 34 #[.slice A n c, .func (.func 35) #[] #[]] w fun e w' => e = .returned (.bool (xs.any emI)) ∧ Kept w w' := by
  obtain ⟨k, hk⟩ : ∃ k, k = emX xs := ⟨_, rfl⟩
  have HC : RowKit.Hid (∀ W, Kept w W → Calls Tryd.prog 62 #[.slice A n c, .func (.func 35) #[] #[]] W fun e w' => e = .returned (.int .i64 k) ∧ Kept W w') := Lib.hid (fun W hW => by rw [hk]; exact indexEmpty_any A n c xs W (hT.kept hW) hlt)
  have HS : RowKit.Hid (xs.any emI = decide (0 ≤ k)) := Lib.hid (by
    rw [hk, emX]
    rcases h : xs.any emI with _ | _
    · simp
    · simp)
  rw [HS.out]
  clear hk hT
  go_enter Tryd.func34, Tryd.ntmps34
  go_wp2_with (go_at_call 62; refine (HC.out _ (Kept.refl _)).mono ?_; rintro e w3 ⟨rfl, hk3⟩)
  go_ret
  exact ⟨rfl, hk3⟩
theorem ivOk_take {xs : List Iv} (h : ivOk xs = true) (k : Nat) : ivOk (xs.take k) = true := by
  unfold ivOk at h ⊢
  rw [List.all_eq_true] at h ⊢
  exact fun x hx => h x (List.mem_of_mem_take hx)
theorem ivHi_take {xs : List Iv} (h : ivOk xs = true) (k : Nat) : ivHi (xs.take k) ≤ ivHi xs := by
  have e : xs = xs.take k ++ xs.drop k := (List.take_append_drop k xs).symm
  have h2 : ivOk (xs.drop k) = true := by
    unfold ivOk at h ⊢
    rw [List.all_eq_true] at h ⊢
    exact fun x hx => h x (List.mem_of_mem_drop hx)
  have h3 := (iv_bd _ h2).2.2.1
  have e2 : ivHi xs = ivHi (xs.take k) + ivHi (xs.drop k) := by
    conv => lhs; rw [e]
    unfold ivHi; rw [List.map_append, List.sum_append]
  omega
def JoinRes (xs : List Iv) (w : World) (e : Ending) (w' : World) : Prop :=
  ((ivHi xs ≤ 100000000 ∧ e = .returned (.agg #[.int .i64 (ivLo xs), .int .i64 (ivHi xs), .bool true])) ∨ (100000000 < ivHi xs ∧ e = .panicked limPanic)) ∧ Kept w w'

set_option maxRecDepth 100000 in
set_option maxHeartbeats 2000000 in
theorem joinedPlus_any (A : Option Addr) (n c : Nat) (xs : List Iv) (w : World) (hT : SliK 3 ivCells w A n c xs) (hlt : n ≤ 200) (hok : ivOk xs = true) (hso : ivSo xs = true) :
    Calls Tryd.prog 37 #[.agg #[.int .i64 0, .int .i64 0, .bool true], .slice A n c, .func (.func 39) #[] #[]] w (JoinRes xs w) := by
  have HT := Lib.hid hT
  have hnc := hT.2.1
  have hcm := hT.2.2.1
  have e82 := e82
  have HOK := Lib.hid hok
  have HSO := Lib.hid hso
  clear hT hok hso
  obtain ⟨W0, hW0⟩ : ∃ W0, W0 = (w.alloc (.cells #[.int .i64 0, .int .i64 0, .bool true] 82)).alloc (.cells #[.int .i64 0, .int .i64 0, .bool false] 82) := ⟨_, rfl⟩
  have k0 : Kept w W0 := by rw [hW0]; exact ((Kept.refl _).alloc _).alloc _
  have r0 : RowC W0 w.heap.size [.int .i64 0, .int .i64 0, .bool true] := by rw [hW0]; exact (RowC.new w [.int .i64 0, .int .i64 0, .bool true] 82).kept ((Kept.refl _).alloc _)
  have r1 : RowC W0 (w.heap.size + 1) [.int .i64 0, .int .i64 0, .bool false] := by rw [hW0]; exact RowC.atn (vs := [.int .i64 0, .int .i64 0, .bool false]) (by simp)
  have HW := Lib.hid hW0
  have R0 := Lib.hid r0
  have R1 := Lib.hid r1
  have K0 := Lib.hid k0
  clear hW0 r0 r1 k0
  go_enter Tryd.func37, Tryd.ntmps37
  go_upto_region 1 with (fail)
  rw [← HW.out]
  go_wp2_with fail
  go_loopw [11] (fun i wr => ∃ k : Nat, k ≤ n ∧ i = .int .i64 k ∧ Kept w wr ∧ RowC wr w.heap.size [.int .i64 (ivLo (xs.take k)), .int .i64 (ivHi (xs.take k)), .bool true] ∧ RowC wr (w.heap.size + 1) [.int .i64 0, .int .i64 0, .bool false] ∧ ivHi (xs.take k) ≤ 100000000) (fun i _ => n - (intOf i).toNat)
  case atStart => exact ⟨0, by omega, by first | rfl | go_num, K0.out, R0.out, R1.out, by simp [ivHi]⟩
  case round =>
    obtain ⟨k, hk, rfl, hkw, hr0, hr1, hle⟩ := hrel
    have hbd := iv_bd _ (ivOk_take HOK.out k)
    obtain ⟨sa, hsa⟩ : ∃ sa, sa = ivLo (xs.take k) := ⟨_, rfl⟩
    obtain ⟨sb, hsb⟩ : ∃ sb, sb = ivHi (xs.take k) := ⟨_, rfl⟩
    rw [← hsa, ← hsb] at hbd hr0
    rw [← hsb] at hle
    have hb2 : 0 ≤ sa ∧ 0 ≤ sb ∧ sa ≤ sb := by omega
    have HSA := Lib.hid hsa
    have HSB := Lib.hid hsb
    clear hbd hsa hsb
    obtain ⟨g0, g1, g2⟩ := (⟨(hr0 0 _ rfl).1, (hr0 1 _ rfl).1, (hr0 2 _ rfl).1⟩ : _ ∧ _ ∧ _)
    obtain ⟨f0, f1, f2⟩ := (⟨(hr0 0 _ rfl).2, (hr0 1 _ rfl).2, (hr0 2 _ rfl).2⟩ : _ ∧ _ ∧ _)
    have lg := cell_lt g0
    have RR0 := Lib.hid hr0
    have RR1 := Lib.hid hr1
    clear hr0 hr1
    by_cases hlt2 : k < n
    · obtain ⟨b, off, hA, htab⟩ := HT.out.2.2.2 (by omega)
      subst hA
      have hxl : k < xs.length := by rw [HT.out.1]; exact hlt2
      obtain ⟨x, hx⟩ : ∃ x, xs[k]? = some x := ⟨xs[k]'hxl, List.getElem?_eq_getElem hxl⟩
      have hmem := List.mem_of_getElem? hx
      have hv : validB x.lo x.hi x.so = true := by have := HOK.out; unfold ivOk at this; exact List.all_eq_true.1 this x hmem
      have hs : x.so = true := by have := HSO.out; unfold ivSo at this; exact List.all_eq_true.1 this x hmem
      have hvb := valid_bd hv
      obtain ⟨_, _, e3, e4⟩ := iv_snoc hx
      have q0 := (hkw.cells _ _ (cell_lt (htab k x hx 0 _ rfl))).trans (htab k x hx 0 _ rfl)
      have q1 := (hkw.cells _ _ (cell_lt (htab k x hx 1 _ rfl))).trans (htab k x hx 1 _ rfl)
      have q2 := (hkw.cells _ _ (cell_lt (htab k x hx 2 _ rfl))).trans (htab k x hx 2 _ rfl)
      simp only [Nat.add_zero] at q0
      rw [hs] at q2
      obtain ⟨xl, hxl0⟩ : ∃ xl, x.lo = xl := ⟨_, rfl⟩
      obtain ⟨xh, hxh0⟩ : ∃ xh, x.hi = xh := ⟨_, rfl⟩
      rw [hxl0] at q0 hvb e3
      rw [hxh0] at q1 hvb e4
      rw [← HSA.out] at e3
      rw [← HSB.out] at e4
      have E3 := Lib.hid e3
      have E4 := Lib.hid e4
      clear htab hx hmem hv hs hxl0 hxh0 e3 e4
      have hlc : w.heap.size < wr.heap.size := lg
      by_cases hbig : sb + xh ≤ 100000000
      · have HC : RowKit.Hid (∀ W, Calls Tryd.prog 39 #[.agg #[.int .i64 sa, .int .i64 sb, .bool true], .agg #[.int .i64 xl, .int .i64 xh, .bool true]] W fun e w' => e = .returned (.agg #[.int .i64 (sa + xl), .int .i64 (sb + xh), .bool true]) ∧ Kept W w') := Lib.hid (fun W => plus_ok sa sb true xl xh true (by omega) (by omega) (by omega) (by omega) hbig (by omega) W)
        go_wp2_with fail
        have kx : Kept wr (wr.alloc (.cells #[.int .i64 xl, .int .i64 xh, .bool true] 82)) := (Kept.refl _).alloc _
        refine (HC.out _).mono ?_
        rintro e w3 ⟨rfl, hk3⟩
        have rr0 := RR0.out.kept (kx.trans hk3)
        have rr1 := RR1.out.kept (kx.trans hk3)
        have kk := hkw.trans (kx.trans hk3)
        obtain ⟨y0, y1, y2⟩ := (⟨(rr0 0 _ rfl).1, (rr0 1 _ rfl).1, (rr0 2 _ rfl).1⟩ : _ ∧ _ ∧ _)
        obtain ⟨z0, z1, z2⟩ := (⟨(rr0 0 _ rfl).2, (rr0 1 _ rfl).2, (rr0 2 _ rfl).2⟩ : _ ∧ _ ∧ _)
        have RX0 := Lib.hid rr0
        have RX1 := Lib.hid rr1
        have KK := Lib.hid kk
        clear rr0 rr1 kk kx
        go_wp2
        go_roundw
        case rel => exact ⟨k + 1, by omega, by go_num, (((KK.out.setCell (Nat.le_refl _) _).setCell (Nat.le_refl _) _).setCell (Nat.le_refl _) _), by rw [E3.out, E4.out]; exact ((RX0.out.put (j := 0) (by simp) _).put (j := 1) (by simp) _).put (j := 2) (by simp) _, ((RX1.out.far (by omega) _).far (by omega) _).far (by omega) _, by rw [E4.out]; exact hbig⟩
        case measure => simp [intOf]; omega
      · have HC : RowKit.Hid (∀ W, Calls Tryd.prog 39 #[.agg #[.int .i64 sa, .int .i64 sb, .bool true], .agg #[.int .i64 xl, .int .i64 xh, .bool true]] W fun e w' => e = .panicked limPanic ∧ Kept W w') := Lib.hid (fun W => plus_lim sa sb true xl xh true (by omega) (by omega) (by omega) W)
        have HBG : RowKit.Hid (100000000 < ivHi xs) := Lib.hid (by have := ivHi_take HOK.out (k + 1); rw [E4.out] at this; omega)
        go_wp2_with fail
        refine (HC.out _).mono ?_
        rintro e w3 ⟨rfl, hk3⟩
        go_wp2
        exact ⟨rfl, .inr ⟨HBG.out, rfl⟩, (hkw.alloc _).trans hk3⟩
    · obtain rfl : k = n := by omega
      have htk : xs.take k = xs := List.take_of_length_le (by rw [HT.out.1]; exact Nat.le_refl _)
      rw [htk] at HSA HSB
      clear htk
      obtain ⟨y0, y1, y2⟩ := (⟨(RR1.out 0 _ rfl).1, (RR1.out 1 _ rfl).1, (RR1.out 2 _ rfl).1⟩ : _ ∧ _ ∧ _)
      obtain ⟨z0, z1, z2⟩ := (⟨(RR1.out 0 _ rfl).2, (RR1.out 1 _ rfl).2, (RR1.out 2 _ rfl).2⟩ : _ ∧ _ ∧ _)
      have KK := Lib.hid hkw
      go_wp2
      refine bodyPost_ret (v := .agg #[.int .i64 sa, .int .i64 sb, .bool true]) (by simp [results, Tryd.results37, go_sem, y0, y1, y2]) rfl ⟨.inl ⟨by rw [← HSB.out]; exact hle, by rw [HSA.out, HSB.out]⟩, ?_⟩
      exact ((KK.out.setCell (by simp; try omega) _).setCell (by simp; try omega) _).setCell (by simp; try omega) _
theorem info83 : (Tryd.prog.info? 82).map (fun i => (i.zero, i.size, i.bytes)) = some (some (.agg #[.int .i64 0, .int .i64 0, .bool false]), 3, 24) := by kernel_rfl
theorem flatK_len {α : Type} {cl : α → List Value} {k : Nat} (hk : ∀ x, (cl x).length = k) (xs : List α) : (xs.flatMap cl).length = xs.length * k := by
  induction xs with
  | nil => simp
  | cons x xs ih => rw [List.flatMap_cons, List.length_append, ih, List.length_cons, hk, Nat.add_mul]; omega
theorem flatK_at {α : Type} {cl : α → List Value} {k : Nat} (hk : ∀ x, (cl x).length = k) : ∀ (xs : List α) (i j : Nat) (x : α), xs[i]? = some x → j < k → (xs.flatMap cl)[i * k + j]? = (cl x)[j]?
  | [], _, _, _, h, _ => by simp at h
  | y :: ys, 0, j, x, h, hj => by
    simp at h
    subst h
    rw [List.flatMap_cons, List.getElem?_append_left (by rw [hk]; omega)]
    simp
  | y :: ys, i + 1, j, x, h, hj => by
    have ih := flatK_at hk ys i j x (by simpa using h) hj
    rw [List.flatMap_cons, List.getElem?_append_right (by rw [hk, Nat.add_mul]; omega), ← ih]
    congr 1
    rw [hk, Nat.add_mul]
    omega
theorem own_sliK {α : Type} {cl : α → List Value} {k : Nat} (hk : ∀ x, (cl x).length = k) (hk0 : 0 < k) {w : World} {base n c : Nat} {e : TypeId} {A : Option Addr} {xs : List α} (h : w.ownsRow base e k (.slice A n c) n (xs.flatMap cl)) : SliK k cl w A n c xs := by
  have hlen : (xs.flatMap cl).length = n * k := h.1
  rw [flatK_len hk] at hlen
  have hn : xs.length = n := Nat.eq_of_mul_eq_mul_right hk0 hlen
  rcases h.2 with ⟨h1, h2⟩ | ⟨g, cap, cur, h1, _, hg, hnc, hc, hs, ht⟩
  · cases h1; exact ⟨hn, by omega, by omega, fun h => by omega⟩
  · cases h1
    refine ⟨hn, hnc, by unfold maxLen at hc; exact hc, fun _ => ⟨g, 0, rfl, fun i x hx j v hv => ?_⟩⟩
    have hi : i < n := by rw [← hn]; exact (List.getElem?_eq_some_iff.1 hx).1
    have hj : j < k := by rw [← hk x]; exact (List.getElem?_eq_some_iff.1 hv).1
    have hlt : i * k + j < n * k := by
      have : (i + 1) * k ≤ n * k := Nat.mul_le_mul_right k hi
      rw [Nat.add_mul] at this
      omega
    rw [show 0 + i * k + j = i * k + j by omega, h.cellAt (i * k + j) hlt, flatK_at hk xs i j x hx hj, hv]
theorem own_outK {α : Type} {cl : α → List Value} {k : Nat} (hk : ∀ x, (cl x).length = k) (hk0 : 0 < k) {w : World} {base n : Nat} {e : TypeId} {v : Value} {xs : List α} (h : w.ownsRow base e k v n (xs.flatMap cl)) : ∃ A c, v = .slice A n c ∧ SliK k cl w A n c xs := by
  rcases h.2 with ⟨h1, h2⟩ | ⟨g, cap, cur, h1, _⟩
  · subst h1; subst h2; exact ⟨_, _, rfl, own_sliK hk hk0 h⟩
  · subst h1; exact ⟨_, _, rfl, own_sliK hk hk0 h⟩
theorem own_row {w : World} {base n size : Nat} {e : TypeId} {v : Value} {xs : List Value} (h : w.ownsRow base e size v n xs) : ∀ j, v.ownBlock = some j → base ≤ j := fun j ej => by
  rcases h.2 with ⟨rfl, _⟩ | ⟨g, cap, cur, rfl, hb, _, _⟩
  · simp [Value.ownBlock] at ej
  · obtain rfl : g = j := by simpa [Value.ownBlock] using ej
    exact hb
theorem iv_emp : ∀ (l : List Iv), ivOk l = true → l.any emI = !ivSo l
  | [], _ => rfl
  | x :: l, h => by
    unfold ivOk at h
    rw [List.all_cons, Bool.and_eq_true] at h
    have ih := iv_emp l h.2
    unfold ivSo at ih ⊢
    rw [List.any_cons, List.all_cons, ih]
    obtain ⟨xl, xh, xo⟩ := x
    have h1 := h.1
    unfold emI
    dsimp only at h1 ⊢
    unfold validB empB at h1
    unfold empB
    cases xo <;> simp at h1 ⊢
    rw [h1.1, h1.2]; simp
theorem iv_len (x : Iv) : (ivCells x).length = 3 := rfl

end Go.Proofs.YtologmoanaccpaaDoor.Tly

namespace Go.Proofs.YtologmoanaccpaaDoor.Tly
set_option linter.all false
open Go.RowKit Go.Shelf
set_option maxRecDepth 100000 in
set_option maxHeartbeats 4000000 in
theorem sum_any (A : Option Addr) (n c : Nat) (xs : List Iv) (w : World) (hT : SliK 3 ivCells w A n c xs) (hlt : n ≤ 1000000) :
    Calls Tryd.prog 12 #[.slice A n c] w fun e w' => e = .returned (.tuple #[.agg #[.int .i64 ((sumX xs).1).1, .int .i64 ((sumX xs).1).2.1, .bool ((sumX xs).1).2.2], .int .i64 (sumX xs).2]) ∧ Kept w w' := by
  have hmf : ∀ (fn : Fn) (first cap : Array Value) (w : World), (Instr.makeFunc fn first cap).run Tryd.prog w = .ok (.func fn first cap) w := fun _ _ _ _ => rfl
  have HT := Lib.hid hT
  have hnc := hT.2.1
  have hcm := hT.2.2.1
  clear hT
  obtain ⟨i0, hi0, hz0, hz1, hz2⟩ := info_parts info83
  obtain ⟨W0, hW0⟩ : ∃ W0, W0 = (w.alloc (.cells #[.int .i64 0, .int .i64 0, .bool false] 42)).alloc (.cells #[.int .i64 0] 31) := ⟨_, rfl⟩
  have k0 : Kept w W0 := by rw [hW0]; exact ((Kept.refl _).alloc _).alloc _
  have r0 : RowC W0 w.heap.size [.int .i64 0, .int .i64 0, .bool false] := by rw [hW0]; exact (RowC.new w [.int .i64 0, .int .i64 0, .bool false] 42).kept ((Kept.refl _).alloc _)
  have r1 : RowC W0 (w.heap.size + 1) [.int .i64 0] := by rw [hW0]; exact RowC.atn (vs := [.int .i64 0]) (by simp)
  have HW := Lib.hid hW0
  have R0 := Lib.hid r0
  have R1 := Lib.hid r1
  have K0 := Lib.hid k0
  have z0 := cell_lt (r1 0 _ rfl).1
  have Z0 : RowKit.Hid (W0.heap.size = w.heap.size + 1 + 1) := Lib.hid (by rw [hW0]; simp)
  clear hW0 r0 r1 k0
  by_cases h200 : 200 < n
  · have HS : RowKit.Hid (sumX xs = ((0, 0, false), 2)) := Lib.hid (by rw [sumX, if_pos (by rw [HT.out.1]; exact h200)])
    rw [HS.out]
    have g0 := (R0.out 0 _ rfl).1
    have g1 := (R0.out 1 _ rfl).1
    have g2 := (R0.out 2 _ rfl).1
    have g3 := (R1.out 0 _ rfl).1
    have f0 := (R0.out 0 _ rfl).2
    have f1 := (R0.out 1 _ rfl).2
    have f2 := (R0.out 2 _ rfl).2
    have f3 := (R1.out 0 _ rfl).2
    go_enter_defers Tryd.func12, Tryd.ntmps12
    go_upto_region 1 with (fail)
    rw [← HW.out]
    go_wp2
    simp [bodyPostD, Leaves, settle, results, Tryd.results12, go_sem, g0, g1, g2, g3]
    exact (((K0.out.setCell (by simp; try omega) _).setCell (by simp; try omega) _).setCell (by simp; try omega) _).setCell (by simp; try omega) _
  · go_enter_defers Tryd.func12, Tryd.ntmps12
    go_upto_region 1 with (fail)
    rw [← HW.out]
    go_wp2_with fail
    go_loopw [4, 13] (fun v i wr => ∃ k : Nat, k ≤ n ∧ i = .int .i64 k ∧ Kept W0 wr ∧ wr.ownsRow W0.heap.size 82 3 v k ((xs.take k).flatMap ivCells) ∧ ivOk (xs.take k) = true) (fun _ i _ => n - (intOf i).toNat)
    case atStart => exact ⟨0, by omega, by first | rfl | go_num, Kept.refl _, World.ownsRow_nil _ _ _ _, rfl⟩
    case round =>
      obtain ⟨k, hk, rfl, hkr, hown, hok⟩ := hrel
      have HOK := Lib.hid hok
      have HOWN := Lib.hid hown
      have kw : Kept w wr := K0.out.trans hkr
      have RR0 := Lib.hid (R0.out.kept hkr)
      have RR1 := Lib.hid (R1.out.kept hkr)
      have hzr := hkr.size
      clear hok hown
      by_cases hlt2 : k < n
      · obtain ⟨b, off, hA, htab⟩ := HT.out.2.2.2 (by omega)
        subst hA
        have hxl : k < xs.length := by rw [HT.out.1]; exact hlt2
        obtain ⟨x, hx⟩ : ∃ x, xs[k]? = some x := ⟨xs[k]'hxl, List.getElem?_eq_getElem hxl⟩
        have HX := Lib.hid hx
        have q0 := (kw.cells _ _ (cell_lt (htab k x hx 0 _ rfl))).trans (htab k x hx 0 _ rfl)
        have q1 := (kw.cells _ _ (cell_lt (htab k x hx 1 _ rfl))).trans (htab k x hx 1 _ rfl)
        have q2 := (kw.cells _ _ (cell_lt (htab k x hx 2 _ rfl))).trans (htab k x hx 2 _ rfl)
        simp only [Nat.add_zero] at q0
        obtain ⟨xl, xh, xo⟩ := x
        dsimp only at q0 q1 q2
        clear htab hx
        have RB := Lib.hid (RowC.new wr [.int .i64 xl, .int .i64 xh, .bool xo] 42)
        rcases hv : validB xl xh xo with _ | _
        · have HV := Lib.hid hv
          have HS : RowKit.Hid (sumX xs = ((0, 0, false), 1)) := Lib.hid (by
            have := iv_bad HX.out HV.out
            rw [sumX, if_neg (by rw [HT.out.1]; omega), if_neg (by rw [this]; simp)])
          clear hv
          go_wp2_with fail
          refine (valid_b _ _ _ _ HV.out _).mono ?_
          rintro e w3 ⟨rfl, hk3⟩
          have kx : Kept wr w3 := ((Kept.refl wr).alloc _).trans hk3
          have rr0 := RR0.out.kept kx
          have rr1 := RR1.out.kept kx
          have g0 := (rr0 0 _ rfl).1
          have g1 := (rr0 1 _ rfl).1
          have g2 := (rr0 2 _ rfl).1
          have g3 := (rr1 0 _ rfl).1
          have f0 := (rr0 0 _ rfl).2
          have f1 := (rr0 1 _ rfl).2
          have f2 := (rr0 2 _ rfl).2
          have f3 := (rr1 0 _ rfl).2
          have KX := Lib.hid (kw.trans kx)
          clear kx rr0 rr1
          go_wp2
          simp [bodyPostD, Leaves, settle, results, Tryd.results12, go_sem, g0, g1, g2, g3]
          refine ⟨by rw [HS.out]; simp, ?_⟩
          exact (((KX.out.setCell (by simp; try omega) _).setCell (by simp; try omega) _).setCell (by simp; try omega) _).setCell (by simp; try omega) _
        · have HV := Lib.hid hv
          clear hv
          go_wp2_with fail
          refine (valid_b _ _ _ _ HV.out _).mono ?_
          rintro e w3 ⟨rfl, hk3⟩
          have kx : Kept wr w3 := ((Kept.refl wr).alloc _).trans hk3
          have KX := Lib.hid (kw.trans kx)
          have rb := RB.out.kept hk3
          have b0 := (rb 0 _ rfl).1
          have b1 := (rb 1 _ rfl).1
          have b2 := (rb 2 _ rfl).1
          clear rb
          have HN3 := Lib.hid (RowC.new w3 [.int .i64 xl, .int .i64 xh, .bool xo] 82)
          have HO3 := Lib.hid (own_kept (own_kept HOWN.out kx) ((Kept.refl w3).alloc (.cells #[.int .i64 xl, .int .i64 xh, .bool xo] 82)))
          have HX3 := Lib.hid kx
          have hz3 := kx.size
          have HA1 : RowKit.Hid (∀ j u, (ivCells ⟨xl, xh, xo⟩)[j]? = some u → (w3.alloc (.cells #[.int .i64 xl, .int .i64 xh, .bool xo] 82)).cell? ((⟨w3.heap.size, 0, none⟩ : Addr).add j) = some u) := Lib.hid (fun j u hu => by
            have e : (⟨w3.heap.size, 0, none⟩ : Addr).add j = ⟨w3.heap.size, j, none⟩ := by simp [Addr.add]; try omega
            rw [e]
            exact (HN3.out j u hu).1)
          have HA2 : RowKit.Hid (∀ u ∈ ivCells ⟨xl, xh, xo⟩, u.oneCell' = true) := Lib.hid (by
            intro u hu
            simp [ivCells] at hu
            rcases hu with h | h | h <;> subst h <;> rfl)
          have HA3 : RowKit.Hid (k + 1 ≤ maxLen) := Lib.hid (by unfold maxLen; omega)
          have HA4 : RowKit.Hid ((k + 1) * 24 ≤ 140737488355328) := Lib.hid (by omega)
          have HA5 : RowKit.Hid (W0.heap.size ≤ (w3.alloc (.cells #[.int .i64 xl, .int .i64 xh, .bool xo] 82)).heap.size) := Lib.hid (by simp; omega)
          clear kx
          go_wp2_with (at_builtin; refine wpList_append_own _ rfl (.tmp 21) (.tmp 23) 93 rfl W0.heap.size 82 i0 (.agg #[.int .i64 0, .int .i64 0, .bool false]) 3 24 Tryd.underlying93 hi0 hz0 hz1 hz2 rfl (by decide) _ k _ rfl HO3.out ⟨w3.heap.size, 0, none⟩ 1 1 (ivCells ⟨xl, xh, xo⟩) rfl rfl HA1.out HA2.out HA3.out HA4.out HA5.out ?_; intro v' w4 hown' hgrow _; obtain ⟨g', cap', rfl⟩ := ownsRow_succ hown'; have HO4 := Lib.hid hown'; have HG4 := Lib.hid hgrow; clear hown' hgrow)
          go_roundw
          case rel =>
            refine ⟨k + 1, by omega, by first | rfl | go_num, ?_, ?_, ?_⟩
            · exact ((hkr.trans HX3.out).trans ((Kept.refl w3).alloc _)).grown HG4.out (fun j ej => own_row HO3.out j ej)
            · rw [take_snoc' HX.out, List.flatMap_append]
              simpa using HO4.out
            · rw [(iv_snoc HX.out).1, HOK.out, HV.out]; rfl
          case measure => simp [intOf]; omega
      · obtain rfl : k = n := by omega
        have htk : xs.take k = xs := List.take_of_length_le (by rw [HT.out.1]; exact Nat.le_refl _)
        have hok := HOK.out
        have hown := HOWN.out
        rw [htk] at hok hown
        obtain ⟨A', c', rfl, hs'⟩ := own_outK iv_len (by decide) hown
        have HS' := Lib.hid hs'
        have HOK' := Lib.hid hok
        have HEMP : RowKit.Hid (xs.length = k) := Lib.hid HT.out.1
        have KW := Lib.hid kw
        clear hown hok htk hs'
        rcases hso : ivSo xs with _ | _
        · have HE : RowKit.Hid (∀ W, Kept wr W → Calls Tryd.prog 34 #[.slice A' k c', .func (.func 35) #[] #[]] W fun e w' => e = .returned (.bool true) ∧ Kept W w') := Lib.hid (fun W hW => by
            have := hasEmpty_any A' k c' xs W (HS'.out.kept hW) hlt
            rwa [iv_emp xs HOK'.out, hso] at this)
          have HS : RowKit.Hid (sumX xs = ((0, 0, false), 0)) := Lib.hid (by
            rw [sumX, if_neg (by rw [HEMP.out]; omega), if_pos HOK'.out, if_neg (by rw [hso]; simp)])
          clear hso
          go_upto_region 11 with (fail)
          go_wp2_with fail
          refine (HE.out _ (Kept.refl _)).mono ?_
          rintro e w3 ⟨rfl, kx⟩
          have rr0 := RR0.out.kept kx
          have rr1 := RR1.out.kept kx
          have g0 := (rr0 0 _ rfl).1
          have g1 := (rr0 1 _ rfl).1
          have g2 := (rr0 2 _ rfl).1
          have g3 := (rr1 0 _ rfl).1
          have f0 := (rr0 0 _ rfl).2
          have f1 := (rr0 1 _ rfl).2
          have f2 := (rr0 2 _ rfl).2
          have f3 := (rr1 0 _ rfl).2
          have KX := Lib.hid (KW.out.trans kx)
          clear kx rr0 rr1
          go_wp2
          simp [bodyPostD, Leaves, settle, results, Tryd.results12, go_sem, g0, g1, g2, g3]
          refine ⟨by rw [HS.out]; simp, ?_⟩
          exact (((KX.out.setCell (by simp; try omega) _).setCell (by simp; try omega) _).setCell (by simp; try omega) _).setCell (by simp; try omega) _
        · have HE : RowKit.Hid (∀ W, Kept wr W → Calls Tryd.prog 34 #[.slice A' k c', .func (.func 35) #[] #[]] W fun e w' => e = .returned (.bool false) ∧ Kept W w') := Lib.hid (fun W hW => by
            have := hasEmpty_any A' k c' xs W (HS'.out.kept hW) hlt
            rwa [iv_emp xs HOK'.out, hso] at this)
          have HJ : RowKit.Hid (∀ W, Kept wr W → Calls Tryd.prog 37 #[.agg #[.int .i64 0, .int .i64 0, .bool true], .slice A' k c', .func (.func 39) #[] #[]] W (JoinRes xs W)) := Lib.hid (fun W hW => joinedPlus_any A' k c' xs W (HS'.out.kept hW) (by omega) HOK'.out hso)
          have HSO := Lib.hid hso
          clear hso
          go_upto_region 11 with (fail)
          go_wp2_with fail
          refine (HE.out _ (Kept.refl _)).mono ?_
          rintro e w3 ⟨rfl, kx⟩
          have KX := Lib.hid kx
          clear kx
          have HTo : RowKit.Hid (∀ W, Calls Tryd.prog 38 #[.int .i64 0, .int .i64 0] W fun e w' => e = .returned (.agg #[.int .i64 0, .int .i64 0, .bool true]) ∧ Kept W w') := Lib.hid (fun W => by
            have := to_any 0 0 W
            rwa [show spL 0 0 = 0 by decide, show spH 0 0 = 0 by decide, show spS 0 0 = true by decide] at this)
          go_upto_region 14 with (fail)
          go_wp2_with fail
          refine (HTo.out _).mono ?_
          rintro e w4 ⟨rfl, hk4⟩
          have HK4 := Lib.hid hk4
          clear hk4
          go_wp2_with fail
          refine (HJ.out _ (KX.out.trans HK4.out)).mono ?_
          rintro e w5 ⟨hj, hk5⟩
          have k5 := (KX.out.trans HK4.out).trans hk5
          have rr0 := RR0.out.kept k5
          have rr1 := RR1.out.kept k5
          have KX5 := Lib.hid (KW.out.trans k5)
          clear k5 hk5
          obtain ⟨g0, g1, g2, g3⟩ := (⟨(rr0 0 _ rfl).1, (rr0 1 _ rfl).1, (rr0 2 _ rfl).1, (rr1 0 _ rfl).1⟩ : _ ∧ _ ∧ _ ∧ _)
          obtain ⟨f0, f1, f2, f3⟩ := (⟨(rr0 0 _ rfl).2, (rr0 1 _ rfl).2, (rr0 2 _ rfl).2, (rr1 0 _ rfl).2⟩ : _ ∧ _ ∧ _ ∧ _)
          clear rr0 rr1
          rcases hj with ⟨hle, rfl⟩ | ⟨hgt, rfl⟩
          · have HS : RowKit.Hid (sumX xs = ((ivLo xs, ivHi xs, true), 0)) := Lib.hid (by
              have hb := iv_bd xs HOK'.out
              rw [sumX, if_neg (by rw [HEMP.out]; omega), if_pos HOK'.out, if_pos HSO.out, if_neg (by omega)]
              unfold spI spL spH spS
              rw [if_pos (by omega), if_pos (by omega), decide_eq_true (by omega)])
            clear hle
            go_wp2
            refine leaves_cons (f := 36) (args := #[.pointer (some ⟨w.heap.size, 0, none⟩), .pointer (some ⟨w.heap.size + 1, 0, none⟩)]) (by simp) (by simp [go_sem]) ?_
            refine (catch_idle ⟨w.heap.size, 0, none⟩ ⟨w.heap.size + 1, 0, none⟩ _).mono ?_
            rintro e u' w'' ⟨rfl, rfl, rfl⟩
            simp [Leaves, settle, results, Tryd.results12, go_sem, g0, g1, g2, g3]
            refine ⟨by rw [HS.out]; simp, ?_⟩
            exact (((KX5.out.setCell (by simp; try omega) _).setCell (by simp; try omega) _).setCell (by simp; try omega) _).setCell (by simp; try omega) _
          · have HS : RowKit.Hid (sumX xs = ((0, 0, false), 2)) := Lib.hid (by
              rw [sumX, if_neg (by rw [HEMP.out]; omega), if_pos HOK'.out, if_pos HSO.out, if_pos (by omega)])
            clear hgt
            go_wp2
            refine leaves_cons (f := 36) (args := #[.pointer (some ⟨w.heap.size, 0, none⟩), .pointer (some ⟨w.heap.size + 1, 0, none⟩)]) (by simp) (by simp [go_sem]) ?_
            refine (catch_panicking w.heap.size (w.heap.size + 1) _ _ _ _ 31 (.int .i64 2) [] _ (by omega) g0 g1 g2 g3 f0 f1 f2 f3).mono ?_
            rintro e u' w'' ⟨rfl, rfl, rfl⟩
            simp [Leaves, settle, results, Tryd.results12, go_sem, g0, g1, g2, g3]
            refine ⟨by rw [HS.out]; simp, ?_⟩
            exact (((KX5.out.setCell (by simp; try omega) _).setCell (by simp; try omega) _).setCell (by simp; try omega) _).setCell (by simp; try omega) _
end Go.Proofs.YtologmoanaccpaaDoor.Tly
