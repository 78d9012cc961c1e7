/-
  cmp.Compare, cmp.Or, the closures of inForce.
  The closures of inForce: whether a record fits, which one is greater; counting.
  counting's iterator: what it yields.
-/
import Derived.Test.YtcjpecdnenemaaaGreatDoorGE
import Derived.Test.YtcjpecdnenemaaaGreatDoorGF
import Derived.Deep.RegionHeld3
import Derived.Deep.RegionWith
import Derived.RangeFuncNested
import Derived.RangeFuncBound
import Derived.RangeFuncCalls
import Derived.RangeFuncLeaves
import Derived.Shelf.Abstract
import Derived.Shelf.RegionOpen
import Derived.WalkKit
import Derived.OwnWalkIn
import Derived.TacticsInMore
import Derived.LoopNIn
import Derived.LoopIn
namespace Go.Proofs.YtcjpecdnenemaaaGreatDoor
set_option linter.unusedVariables false
open Go.RowKit Go.Shelf

def cmpZ (a b : Int) : Int := if a < b then -1 else if b < a then 1 else 0
theorem isNaN_any (x : Int) (w : World) : Calls Tryz.prog 175 #[.int .i64 x] w fun e w' => e = .returned (.bool false) ∧ w = w' := by
  go_enter Tryz.func175, Tryz.ntmps175
  go_wp2
  go_ret
  exact ⟨by simp, rfl⟩
theorem cmpCompare_any (x y : Int) (w : World) : Calls Tryz.prog 140 #[.int .i64 x, .int .i64 y] w fun e w' => e = .returned (.int .i64 (cmpZ x y)) ∧ w = w' := by
  by_cases h : x < y
  · have e : cmpZ x y = -1 := by unfold cmpZ; rw [if_pos h]
    rw [e]
    clear e
    go_enter Tryz.func140, Tryz.ntmps140
    go_wp2_with (go_at_call 175; refine (isNaN_any _ _).mono ?_; rintro e w' ⟨rfl, rfl⟩)
    go_ret
    exact ⟨rfl, rfl⟩
  · by_cases k : y < x
    · have e : cmpZ x y = 1 := by unfold cmpZ; rw [if_neg h, if_pos k]
      rw [e]
      clear e
      go_enter Tryz.func140, Tryz.ntmps140
      go_wp2_with (go_at_call 175; refine (isNaN_any _ _).mono ?_; rintro e w' ⟨rfl, rfl⟩)
      go_ret
      exact ⟨rfl, rfl⟩
    · have e : cmpZ x y = 0 := by unfold cmpZ; rw [if_neg h, if_neg k]
      rw [e]
      clear e
      go_enter Tryz.func140, Tryz.ntmps140
      go_wp2_with (go_at_call 175; refine (isNaN_any _ _).mono ?_; rintro e w' ⟨rfl, rfl⟩)
      go_ret
      exact ⟨rfl, rfl⟩

def orZ (a b : Int) : Int := if a = 0 then b else a
theorem or_any (bk : Nat) (a b : Int) (w : World) (h0 : w.cell? ⟨bk, 0, none⟩ = some (.int .i64 a)) (h1 : w.cell? ⟨bk, 1, none⟩ = some (.int .i64 b)) :
    Calls Tryz.prog 163 #[.slice (some ⟨bk, 0, none⟩) 2 2] w fun e w' => e = .returned (.int .i64 (orZ a b)) ∧ w = w' := by
  by_cases ha : a = 0
  · have e : orZ a b = b := by unfold orZ; rw [if_pos ha]
    rw [e]
    clear e
    subst ha
    by_cases hb : b = 0
    · subst hb
      go_enter Tryz.func163, Tryz.ntmps163
      go_wp2_with fail
      refine wp_loop_rounds 3 ?_
      rw [rounds_succ]
      go_wp2
      rw [rounds_succ]
      go_wp2
      rw [rounds_succ]
      go_wp2
      go_ret
      exact ⟨rfl, rfl⟩
    · have hb' : (b != 0) = true := by simp [hb]
      go_enter Tryz.func163, Tryz.ntmps163
      go_wp2_with fail
      refine wp_loop_rounds 3 ?_
      rw [rounds_succ]
      go_wp2
      rw [rounds_succ]
      go_wp2
      go_ret
      exact ⟨rfl, rfl⟩
  · have e : orZ a b = a := by unfold orZ; rw [if_neg ha]
    rw [e]
    clear e
    have ha' : (a != 0) = true := by simp [ha]
    go_enter Tryz.func163, Tryz.ntmps163
    go_wp2_with fail
    refine wp_loop_rounds 3 ?_
    rw [rounds_succ]
    go_wp2
    go_ret
    exact ⟨rfl, rfl⟩
end Go.Proofs.YtcjpecdnenemaaaGreatDoor

namespace Go.Proofs.YtcjpecdnenemaaaGreatDoor
set_option linter.unusedVariables false
open Go.RowKit Go.Shelf

def fitB (sort : ByteArray) (day : Int) (x : Eqv) : Bool := (x.sort.toList == sort.toList) && decide (x.frm ≤ day)
theorem e160 : ∀ args w, (callFunc 160 args).run Tryz.prog w = .ok (.enter 160 args) w := enters_of Tryz.func160 (by kernel_rfl) rfl
theorem e162 : ∀ args w, (callFunc 162 args).run Tryz.prog w = .ok (.enter 162 args) w := enters_of Tryz.func162 (by kernel_rfl) rfl
theorem fits_any (bs bd : Nat) (sort : ByteArray) (day : Int) (x : Eqv) (w : World) (hs : w.cell? ⟨bs, 0, none⟩ = some (.string sort)) (hd : w.cell? ⟨bd, 0, none⟩ = some (.int .i64 day)) :
    Calls Tryz.prog 160 #[eqV x, .pointer (some ⟨bs, 0, none⟩), .pointer (some ⟨bd, 0, none⟩)] w fun e w' => e = .returned (.bool (fitB sort day x)) ∧ Kept w w' := by
  have hbs := cell_lt hs
  have hbd := cell_lt hd
  unfold eqV
  by_cases h : (x.sort.toList == sort.toList) = true
  · go_enter Tryz.func160, Tryz.ntmps160
    go_wp2
    go_ret
    exact ⟨ret_bool (by unfold fitB; rw [h]; rfl), (Kept.refl _).alloc _⟩
  · have h' : (x.sort.toList == sort.toList) = false := by simpa using h
    clear h
    go_enter Tryz.func160, Tryz.ntmps160
    go_wp2
    go_ret
    exact ⟨ret_bool (by unfold fitB; rw [h']; rfl), (Kept.refl _).alloc _⟩

def cmpE (x y : Eqv) : Int := orZ (cmpZ x.frm y.frm) (cmpZ x.id y.id)
theorem S2_of {w W : World} (x y : Eqv) (h : Kept ((w.alloc (boxX x)).alloc (boxX y)) W) : W.cell? ⟨w.heap.size, 0, none⟩ = some (.int .i64 x.id) ∧ W.cell? ⟨w.heap.size, 1, none⟩ = some (.int .i64 x.frm) ∧ W.cell? ⟨w.heap.size + 1, 0, none⟩ = some (.int .i64 y.id) ∧ W.cell? ⟨w.heap.size + 1, 1, none⟩ = some (.int .i64 y.frm) ∧ Kept ((w.alloc (boxX x)).alloc (boxX y)) W := by
  refine ⟨?_, ?_, ?_, ?_, h⟩ <;> (rw [h.cells _ _ (by simp <;> omega)]; unfold boxX; simp [go_sem])
theorem new_cell {W : World} {cs : Array Value} {t : TypeId} {m j : Nat} {v : Value} (hm : W.heap.size = m) (h : cs[j]? = some v) : (W.alloc (.cells cs t)).cell? ⟨m, j, none⟩ = some v := by
  subst hm
  rw [cell_of_row _ _ _ _ _ _ (heap_alloc_new W _)]
  exact h
theorem new_cell_drew {W : World} {cs : Array Value} {t : TypeId} {m j : Nat} {v : Value} (hm : W.heap.size = m) (h : cs[j]? = some v) : (W.alloc (.cells cs t)).drew.cell? ⟨m, j, none⟩ = some v := new_cell hm h
theorem cmpE_any (x y : Eqv) (w : World) :
    Calls Tryz.prog 162 #[eqV x, eqV y] w fun e w' => e = .returned (.int .i64 (cmpE x y)) ∧ Kept w w' := by
  unfold eqV
  go_enter Tryz.func162, Tryz.ntmps162
  go_wp2_with fail
  go_region_held3 (fun w' => w'.cell? ⟨w.heap.size, 0, none⟩ = some (.int .i64 x.id) ∧ w'.cell? ⟨w.heap.size, 1, none⟩ = some (.int .i64 x.frm) ∧ w'.cell? ⟨w.heap.size + 1, 0, none⟩ = some (.int .i64 y.id) ∧ w'.cell? ⟨w.heap.size + 1, 1, none⟩ = some (.int .i64 y.frm) ∧ Kept ((w.alloc (boxX x)).alloc (boxX y)) w')
    (first
      | exact S2_of x y ((Kept.refl _).drew)
      | exact S2_of x y (((Kept.refl _).drew).alloc _)
      | fail)
    (first
      | (go_at_call 140; refine (cmpCompare_any _ _ _).mono ?_; rintro e w' ⟨rfl, rfl⟩)
      | (go_at_call 163; refine (or_any _ _ _ _ (by exact new_cell_drew (by simp) rfl) (by exact new_cell_drew (by simp) rfl)).mono ?_; rintro e w' ⟨rfl, rfl⟩)
      | fail)
  all_goals
    go_wp2
    go_ret
    exact ⟨rfl, ((((Kept.refl w).alloc _).alloc _).drew).alloc _⟩

theorem counting_any (A : Option Addr) (n c : Nat) (known : Int) (w : World) :
    Calls Tryz.prog 117 #[.slice A n c, .int .i64 known] w fun e w' => e = .returned (.func (.func 165) #[] #[.pointer (some ⟨w.heap.size, 0, none⟩), .pointer (some ⟨w.heap.size + 1, 0, none⟩)]) ∧ w' = (w.alloc (.cells #[.slice A n c] 35)).alloc (.cells #[.int .i64 known] 3) := by
  have hmf : ∀ (fn : Fn) (first cap : Array Value) (w : World), (Instr.makeFunc fn first cap).run Tryz.prog w = .ok (.func fn first cap) w := fun _ _ _ _ => rfl
  go_enter Tryz.func117, Tryz.ntmps117
  go_wp2
  go_ret
  exact ⟨rfl, rfl⟩
end Go.Proofs.YtcjpecdnenemaaaGreatDoor

namespace Go.Proofs.YtcjpecdnenemaaaGreatDoor
set_option linter.unusedVariables false
open Go.RowKit Go.Shelf
attribute [local go_sem] Oper.semAt_some

/-- whether some record of a table, known by a day, makes a record void -/
def voidS (xs : List Eqv) (known : Int) (id : Int) : Bool := xs.any fun y => decide (y.kno ≤ known) && decide (y.off = id)
def cntP (xs : List Eqv) (known : Int) (x : Eqv) : Bool := decide (x.off = 0) && decide (x.kno ≤ known) && !(voidS xs known x.id)
/-- the equivalents that count on a day of knowledge -/
def cntS (xs : List Eqv) (known : Int) : List Eqv := xs.filter (cntP xs known)
/-- the map that marks what is void -/
def voidF (xs : List Eqv) (known : Int) (id : Int) : Option Value := if voidS xs known id = true then some (.bool true) else none
theorem voidS_snoc (xs : List Eqv) (known : Int) (x : Eqv) (id : Int) : voidS (xs ++ [x]) known id = (voidS xs known id || (decide (x.kno ≤ known) && decide (x.off = id))) := by simp [voidS]
theorem voidF_yes (xs : List Eqv) (known : Int) (x : Eqv) (h : x.kno ≤ known) (k' : Int) : (if k' = x.off then some (Value.bool true) else voidF xs known k') = voidF (xs ++ [x]) known k' := by
  unfold voidF
  rw [voidS_snoc]
  by_cases e : k' = x.off
  · subst e; simp [h]
  · have e' : ¬ x.off = k' := fun h => e h.symm
    simp [e, e']
theorem voidF_no (xs : List Eqv) (known : Int) (x : Eqv) (h : ¬ x.kno ≤ known) (k' : Int) : voidF xs known k' = voidF (xs ++ [x]) known k' := by
  unfold voidF
  rw [voidS_snoc]
  simp [h]

/-- what a round leaves as it lies, for the iterator's sake -/
def KpB (n₀ : Nat) (W W' : World) : Prop := Below n₀ W W' ∧ KeepsWalks W W'
theorem KpB.trans {n₀ : Nat} {A B C : World} (h : KpB n₀ A B) (k : KpB n₀ B C) : KpB n₀ A C := ⟨h.1.trans k.1, h.2.trans k.2⟩
theorem MapA.walks {P : Program} {κ : Type} [DecidableEq κ] (kk : KeyKind P κ) {w w' : World} {r : Nat} {f : κ → Option Value} (h : MapA kk w r f) (hk : KeepsWalks w w') : MapA kk w' r f := by
  obtain ⟨es, clock, l, h1, h2, h3⟩ := h
  exact ⟨es, clock, l, hk.same r _ h1 rfl, h2, h3⟩
theorem take_snoc' {α : Type} {xs : List α} {k : Nat} {x : α} (h : xs[k]? = some x) : xs.take (k + 1) = xs.take k ++ [x] := by
  obtain ⟨hk, hx⟩ := List.getElem?_eq_some_iff.1 h
  rw [List.take_succ_eq_append_getElem hk, hx]
theorem filt_yes {α : Type} {xs : List α} {p : α → Bool} {k : Nat} {x : α} (h : xs[k]? = some x) (hp : p x = true) : (xs.take (k + 1)).filter p = (xs.take k).filter p ++ [x] := by
  rw [take_snoc' h, List.filter_append]; simp [hp]
theorem filt_no {α : Type} {xs : List α} {p : α → Bool} {k : Nat} {x : α} (h : xs[k]? = some x) (hp : p x = false) : (xs.take (k + 1)).filter p = (xs.take k).filter p := by
  rw [take_snoc' h, List.filter_append]; simp [hp]
theorem filt_lt {α : Type} {xs : List α} {p : α → Bool} {k : Nat} {x : α} (h : xs[k]? = some x) (hp : p x = true) : ((xs.take k).filter p).length < (xs.filter p).length := by
  have e : xs.filter p = (xs.take (k + 1)).filter p ++ (xs.drop (k + 1)).filter p := by rw [← List.filter_append, List.take_append_drop]
  rw [e, filt_yes h hp]
  simp
theorem filt_prefix {α : Type} (xs : List α) (p : α → Bool) (k : Nat) : (xs.take k).filter p <+: xs.filter p := by
  have e : xs.filter p = (xs.take k).filter p ++ (xs.drop k).filter p := by rw [← List.filter_append, List.take_append_drop]
  rw [e]; exact List.prefix_append _ _

def k154 : KeyKind Tryz.prog Int := intKeys Tryz.underlying3
theorem kept_grown {w w' : World} (h : Kept w w') : w.grownBy w' none := ⟨h.os, h.tape, h.output, h.size, fun k hk _ => h.block k hk⟩

set_option maxRecDepth 100000 in
set_option maxHeartbeats 2000000 in
theorem counting1 (n : Nat) (hn : 1 ≤ n) (l bl bk : Nat) (A : Option Addr) (nn c : Nat) (xs : List Eqv) (known : Int) (w0 : World) (hl : w0.cell? ⟨bl, 0, none⟩ = some (.slice A nn c)) (hk : w0.cell? ⟨bk, 0, none⟩ = some (.int .i64 known)) (hT : TabA w0 A nn c xs)
    (J Jx : List Eqv → World → Prop) (W : World) (hW : Kept w0 W) (hJ : AbidesFrom W.heap.size J) (hlt : nn ≤ 1000000)
    (hY : ∀ pre x W1, J pre W1 → pre.length < (cntS xs known).length → YieldAt Fence.wide (n - 1) Tryz.prog l #[eqV x] W1 fun e W' =>
      (e = .returned (.bool true) ∧ J (pre ++ [x]) W' ∧ KpB w0.heap.size W1 W') ∨ (e = .returned (.bool false) ∧ Jx (pre ++ [x]) W'))
    (h0 : J [] W) :
    CallsIn Fence.wide n Tryz.prog 165 #[.func (.yield l) #[] #[], .pointer (some ⟨bl, 0, none⟩), .pointer (some ⟨bk, 0, none⟩)] W fun e W' => (∃ v, e = .returned v) ∧
      ((∃ ys, ys = cntS xs known ∧ J ys W') ∨ (∃ pre, pre <+: cntS xs known ∧ Jx pre W')) := by
  have hmm := @run_makeMap Tryz.prog
  have HT := Lib.hid hT
  have HY := Lib.hid hY
  have HJ := Lib.hid hJ
  have Hl := Lib.hid hl
  have Hk := Lib.hid hk
  have hbl := cell_lt hl
  have hbk := cell_lt hk
  clear hT hY hJ hl hk
  have g1 : W.cell? ⟨bl, 0, none⟩ = some (.slice A nn c) := (hW.cells _ _ hbl).trans Hl.out
  have g2 : W.cell? ⟨bk, 0, none⟩ = some (.int .i64 known) := (hW.cells _ _ hbk).trans Hk.out
  have hz := hW.size
  have hblW : bl < W.heap.size := by omega
  have hbkW : bk < W.heap.size := by omega
  have m0 := Lib.hid (MapA.new k154 W)
  refine callsIn_of_wp Tryz.func165 rfl trivial ?_ rfl
  simp only [Tryz.ntmps165, List.size_toArray, List.length_cons, List.length_nil, Nat.reduceAdd, Nat.reduceSub, Array.replicate_succ, Array.replicate_zero, List.push_toArray, List.append_toArray, List.nil_append, List.cons_append]
  gi_wp2
  clear g1 g2
  gi_loopw [12] (fun i wr => ∃ k : Nat, k ≤ nn ∧ i = .int .i64 k ∧ MapA k154 wr W.heap.size (voidF (xs.take k) known) ∧ Kept W wr) (fun i _ => nn - (intOf i).toNat)
  case atStart => exact ⟨0, by omega, by first | rfl | go_num, MapA.congr k154 m0.out (fun k => by simp [voidF, voidS]), (Kept.refl _).alloc _⟩
  case round =>
    obtain ⟨k, hk, rfl, hm, hkr⟩ := hrel
    have hk0 := hW.trans hkr
    have hzr := hk0.size
    have hblr : bl < wr.heap.size := by omega
    have hbkr : bk < wr.heap.size := by omega
    have c2 : wr.cell? ⟨bk, 0, none⟩ = some (.int .i64 known) := (hk0.cells _ _ hbk).trans Hk.out
    have c1 : wr.cell? ⟨bl, 0, none⟩ = some (.slice A nn c) := (hk0.cells _ _ hbl).trans Hl.out
    by_cases hlt' : k < nn
    · obtain ⟨b, off, hA, htab⟩ := HT.out.2.2.2.2 (by omega)
      subst hA
      have hxl : k < xs.length := by rw [HT.out.1]; exact hlt'
      obtain ⟨x, hx⟩ : ∃ x, xs[k]? = some x := ⟨xs[k]'hxl, List.getElem?_eq_getElem hxl⟩
      obtain ⟨q0, q1, q2, q3, q4, q5, q6⟩ := (htab k x hx).kept hk0
      have Hx := Lib.hid hx
      have Htab := Lib.hid htab
      clear hx htab
      by_cases hd : x.kno ≤ known
      · obtain ⟨w2, r2, m2, b2, _, z2⟩ := run_mapUpdate_is k154 (T := 154) Tryz.underlying154 (MapA.kept k154 hm ((Kept.refl wr).alloc (boxX x))) x.off (.bool true)
        have K2 : Kept W w2 := (hkr.alloc (boxX x)).below.trans (b2 _ (by have := hkr.size; omega))
        have M2 := Lib.hid (MapA.congr k154 m2 (voidF_yes (xs.take k) known x hd))
        clear m2 b2
        simp only [k154, intKeys, boxX] at r2
        gi_wp2
        go_roundw
        case rel => exact ⟨k + 1, by omega, by go_num, by rw [take_snoc' Hx.out]; exact M2.out, K2⟩
        case measure => simp [intOf]; omega
      · gi_wp2
        go_roundw
        case rel => exact ⟨k + 1, by omega, by go_num, by rw [take_snoc' Hx.out]; exact MapA.congr k154 (MapA.kept k154 hm ((Kept.refl wr).alloc (boxX x))) (voidF_no (xs.take k) known x hd), hkr.alloc _⟩
        case measure => simp [intOf]; omega
    · obtain rfl : k = nn := by omega
      have hm' : MapA k154 wr W.heap.size (voidF xs known) := by rw [List.take_of_length_le (by rw [HT.out.1]; exact Nat.le_refl _)] at hm; exact hm
      clear hm hlt'
      have hJ0 : J [] wr := HJ.out [] W wr none h0 (kept_grown hkr) (fun r e => by cases e)
      gi_wp2
      gi_loopw [26] (fun i w1 => ∃ j : Nat, j ≤ k ∧ i = .int .i64 j ∧ MapA k154 w1 W.heap.size (voidF xs known) ∧ Kept w0 w1 ∧ wr.heap.size ≤ w1.heap.size ∧ J ((xs.take j).filter (cntP xs known)) w1) (fun i _ => k - (intOf i).toNat)
      case atStart => exact ⟨0, by omega, by first | rfl | go_num, hm', hk0, Nat.le_refl _, hJ0⟩
      case round =>
        obtain ⟨j, hj, rfl, hm1, hk1, hz1, hJ1⟩ := hrel
        have hz2 := hk1.size
        have hblr1 : bl < wr.heap.size := by omega
        have hbkr1 : bk < wr.heap.size := by omega
        have d2 : wr.cell? ⟨bk, 0, none⟩ = some (.int .i64 known) := (hk1.cells _ _ hbk).trans Hk.out
        by_cases hlt2 : j < k
        · obtain ⟨b, off, hA, htab⟩ := HT.out.2.2.2.2 (by omega)
          subst hA
          have hxl : j < xs.length := by rw [HT.out.1]; exact hlt2
          obtain ⟨x, hx⟩ : ∃ x, xs[j]? = some x := ⟨xs[j]'hxl, List.getElem?_eq_getElem hxl⟩
          obtain ⟨q0, q1, q2, q3, q4, q5, q6⟩ := (htab j x hx).kept hk1
          have Hx := Lib.hid hx
          have hJ2 : J ((xs.take j).filter (cntP xs known)) (wr.alloc (boxX x)) := HJ.out _ wr _ none hJ1 (World.grownBy_alloc wr _ none) (fun r e => by cases e)
          have hk2 : Kept w0 (wr.alloc (boxX x)) := hk1.alloc _
          have m2 := MapA.kept k154 hm1 ((Kept.refl wr).alloc (boxX x))
          clear hx htab
          by_cases c1 : (x.off == 0) = true
          · by_cases c2 : decide (x.kno ≤ known) = true
            · by_cases c3 : voidS xs known x.id = true
              · have hp : cntP xs known x = false := by simp [cntP, c3]
                have r2 := run_lookup_some k154 (T := 154) Tryz.underlying154 m2 (k := x.id) (v := .bool true) (by unfold voidF; rw [if_pos c3])
                have M2 := Lib.hid m2
                have HP := Lib.hid (filt_no (p := cntP xs known) Hx.out hp)
                clear m2 hp
                simp only [k154, intKeys, boxX] at r2
                gi_wp2
                refine ⟨fun _ h => (by cases h), ?_⟩
                gi_wp2
                go_roundw
                case rel => exact ⟨j + 1, by omega, by go_num, M2.out, hk2, by simp; omega, by rw [HP.out]; exact hJ2⟩
                case measure => simp [intOf]; omega
              · have c3' : voidS xs known x.id = false := by simpa using c3
                have hp : cntP xs known x = true := by simp at c1 c2; simp [cntP, c1, c2, c3']
                have r2 := run_lookup_none k154 (T := 154) Tryz.underlying154 (z := .bool false) (Tryz.zeroValue4) m2 (k := x.id) (by unfold voidF; rw [if_neg c3])
                have M2 := Lib.hid m2
                have HP := Lib.hid (filt_yes (p := cntP xs known) Hx.out hp)
                have HPre := Lib.hid (filt_prefix xs (cntP xs known) (j + 1))
                obtain ⟨fn, tmps, assign, body, hy, hR⟩ := HY.out _ x (wr.alloc (boxX x)) hJ2 (filt_lt Hx.out hp)
                clear m2 hp c3
                simp only [k154, intKeys, boxX] at r2
                simp only [eqV, boxX] at hy
                gi_wp2
                refine hR.mono ?_
                rintro e W3 (⟨rfl, hJ3, hk3⟩ | ⟨rfl, hJx3⟩)
                · gi_wp2
                  go_roundw
                  case rel => exact ⟨j + 1, by omega, by go_num, MapA.walks k154 M2.out hk3.2, hk2.below.trans hk3.1, by have := hk3.1.size; simp at this; omega, by rw [HP.out]; exact hJ3⟩
                  case measure => simp [intOf]; omega
                · gi_wp2
                  refine bodyPost_ret (results_none rfl _ _ _) rfl ?_
                  exact ⟨⟨_, rfl⟩, .inr ⟨_, by rw [← HP.out]; exact HPre.out, hJx3⟩⟩
            · have c2' : decide (x.kno ≤ known) = false := by simpa using c2
              have hp : cntP xs known x = false := by simp [cntP, c2']
              have M2 := Lib.hid m2
              have HP := Lib.hid (filt_no (p := cntP xs known) Hx.out hp)
              clear m2 hp c2
              gi_wp2
              refine ⟨fun _ h => (by cases h), ?_⟩
              gi_wp2
              go_roundw
              case rel => exact ⟨j + 1, by omega, by go_num, M2.out, hk2, by simp; omega, by rw [HP.out]; exact hJ2⟩
              case measure => simp [intOf]; omega
          · have c1' : (x.off == 0) = false := by simpa using c1
            have hp : cntP xs known x = false := by simp at c1; simp [cntP, c1]
            have M2 := Lib.hid m2
            have HP := Lib.hid (filt_no (p := cntP xs known) Hx.out hp)
            clear m2 hp c1
            gi_wp2
            refine ⟨fun _ h => (by cases h), ?_⟩
            gi_wp2
            go_roundw
            case rel => exact ⟨j + 1, by omega, by go_num, M2.out, hk2, by simp; omega, by rw [HP.out]; exact hJ2⟩
            case measure => simp [intOf]; omega
        · obtain rfl : j = k := by omega
          gi_wp2
          go_end0
          exact ⟨⟨_, rfl⟩, .inl ⟨_, rfl, by rw [List.take_of_length_le (by rw [HT.out.1]; exact Nat.le_refl _)] at hJ1; exact hJ1⟩⟩

/-- **the iterator of counting** -/
theorem counting_stops (n : Nat) (hn : 1 ≤ n) (bl bk : Nat) (A : Option Addr) (nn c : Nat) (xs : List Eqv) (known : Int) (w0 : World) (hl : w0.cell? ⟨bl, 0, none⟩ = some (.slice A nn c)) (hk : w0.cell? ⟨bk, 0, none⟩ = some (.int .i64 known)) (hT : TabA w0 A nn c xs) (hlt : nn ≤ 1000000) (w : World) (hw : Kept w0 w) :
    SeqStopsK Fence.wide n Tryz.prog 165 #[.pointer (some ⟨bl, 0, none⟩), .pointer (some ⟨bk, 0, none⟩)] (fun x : Eqv => #[eqV x]) (KpB w0.heap.size) (fun ys => ys = cntS xs known) (fun pre => pre <+: cntS xs known) (cntS xs known).length w :=
  fun l J Jx W hW hJ hJx hY h0 => counting1 n hn l bl bk A nn c xs known w0 hl hk hT J Jx W (hw.trans hW) hJ hlt hY h0
end Go.Proofs.YtcjpecdnenemaaaGreatDoor
