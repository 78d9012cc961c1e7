/- the re-counts that count, and those of a shepherd: two iterators -/
import Derived.Test.YtdeokdlkjgpffaaGreatDoorTm
import Derived.Deep.RegionHeld3
import Derived.Deep.DeepCutAuto
import Derived.RegionTactic
import Derived.ChangeAlike
namespace Go.Proofs.YtdeokdlkjgpffaaGreatDoor
set_option linter.all false
open Go.RowKit Go.Shelf
attribute [local go_sem] Oper.semAt_some

/-- those that count on a day of knowledge; of these, those of a shepherd -/
def cntS (xs : List Rcn) (known : Int) : List Rcn := xs.filter (fun x => decide (x.kn ≤ known))
def ofS (xs : List Rcn) (known sh : Int) : List Rcn := (cntS xs known).filter (fun x => decide (x.sh = sh))
theorem take_snoc' {α : Type} {xs : List α} {k : Nat} {x : α} (h : xs[k]? = some x) : xs.take (k + 1) = xs.take k ++ [x] := by
  obtain ⟨hk, hx⟩ := List.getElem?_eq_some_iff.1 h
  rw [List.take_succ_eq_append_getElem hk, hx]
theorem filt_yes {α : Type} {xs : List α} {p : α → Bool} {k : Nat} {x : α} (h : xs[k]? = some x) (hp : p x = true) : (xs.take (k + 1)).filter p = (xs.take k).filter p ++ [x] := by
  rw [take_snoc' h, List.filter_append]; simp [hp]
theorem filt_no {α : Type} {xs : List α} {p : α → Bool} {k : Nat} {x : α} (h : xs[k]? = some x) (hp : p x = false) : (xs.take (k + 1)).filter p = (xs.take k).filter p := by
  rw [take_snoc' h, List.filter_append]; simp [hp]
theorem filt_lt {α : Type} {xs : List α} {p : α → Bool} {k : Nat} {x : α} (h : xs[k]? = some x) (hp : p x = true) : ((xs.take k).filter p).length < (xs.filter p).length := by
  have e : xs.filter p = (xs.take (k + 1)).filter p ++ (xs.drop (k + 1)).filter p := by rw [← List.filter_append, List.take_append_drop]
  rw [e, filt_yes h hp]
  simp
theorem filt_prefix {α : Type} (xs : List α) (p : α → Bool) (k : Nat) : (xs.take k).filter p <+: xs.filter p := by
  have e : xs.filter p = (xs.take k).filter p ++ (xs.drop k).filter p := by rw [← List.filter_append, List.take_append_drop]
  rw [e]; exact List.prefix_append _ _


theorem roomW (k : Nat) : Fence.wide.room k := fun d h => by cases h
theorem yieldAny {m m' : Nat} {P : Program} {l : Nat} {args : Array Value} {W : World} {R : Ending → World → Prop} (h : YieldAt Fence.wide m P l args W R) : YieldAt Fence.wide m' P l args W R := by
  obtain ⟨fn, tmps, assign, body, hy, hR⟩ := h
  exact ⟨fn, tmps, assign, body, hy, hR.1, fun c cs _ => hR.2 c cs (roomW _)⟩
theorem kept_grown {w w' : World} (h : Kept w w') : w.grownBy w' none := ⟨h.os, h.tape, h.output, h.size, fun k hk _ => h.block k hk⟩

theorem counting_any (A : Option Addr) (n c : Nat) (known : Int) (w : World) :
    Calls Tryz.prog 65 #[.slice A n c, .int .i64 known] w fun e w' => e = .returned (.func (.func 75) #[] #[.pointer (some ⟨w.heap.size, 0, none⟩), .pointer (some ⟨w.heap.size + 1, 0, none⟩)]) ∧ w' = (w.alloc (.cells #[.slice A n c] 49)).alloc (.cells #[.int .i64 known] 3) := by
  have hmf : ∀ (fn : Fn) (first cap : Array Value) (w : World), (Instr.makeFunc fn first cap).run Tryz.prog w = .ok (.func fn first cap) w := fun _ _ _ _ => rfl
  go_enter Tryz.func65, Tryz.ntmps65
  go_wp2
  go_ret
  exact ⟨rfl, rfl⟩
theorem countingOf_any (A : Option Addr) (n c : Nat) (sh known : Int) (w : World) :
    Calls Tryz.prog 46 #[.slice A n c, .int .i64 sh, .int .i64 known] w fun e w' => e = .returned (.func (.func 64) #[] #[.pointer (some ⟨w.heap.size, 0, none⟩), .pointer (some ⟨w.heap.size + 1 + 1, 0, none⟩), .pointer (some ⟨w.heap.size + 1, 0, none⟩)]) ∧ w' = ((w.alloc (.cells #[.slice A n c] 49)).alloc (.cells #[.int .i64 sh] 3)).alloc (.cells #[.int .i64 known] 3) := by
  have hmf : ∀ (fn : Fn) (first cap : Array Value) (w : World), (Instr.makeFunc fn first cap).run Tryz.prog w = .ok (.func fn first cap) w := fun _ _ _ _ => rfl
  go_enter Tryz.func46, Tryz.ntmps46
  go_wp2
  go_ret
  exact ⟨rfl, rfl⟩

/-- what a round keeps for counting's sake: the table, and the day in its box -/
def KpC (n0 b : Nat) (W W' : World) : Prop := Below n0 W W' ∧ (∀ v, W.cell? ⟨b, 0, none⟩ = some v → W'.cell? ⟨b, 0, none⟩ = some v)
theorem KpC.trans {n0 b : Nat} {A B C : World} (h : KpC n0 b A B) (k : KpC n0 b B C) : KpC n0 b A C := ⟨h.1.trans k.1, fun v hv => k.2 v (h.2 v hv)⟩
theorem KpC.put {n0 b : Nat} {w : World} (hn : n0 ≤ w.heap.size) (W : World) (l : Nat) (o o' : Obj) (hl : w.heap.size ≤ l) (h : W.heap[l]? = some o) (hc : o.isCells = false) (hw : o.isWalk = false) : KpC n0 b W (W.putObj l o') :=
  ⟨belowK_b hn W l o o' hl h hc hw, fun v hv => cell_kept hv (grownBy_putObj' W l o') (fun r e => by cases e; exact ⟨o, h, hc⟩)⟩
theorem KpC.of_kept {n0 b : Nat} {W W' : World} (h : Kept W W') (hn : n0 ≤ W.heap.size) : KpC n0 b W W' := ⟨h.below.mono hn, fun v hv => (h.cells _ _ (cell_lt hv)).trans hv⟩

set_option maxRecDepth 100000 in
set_option maxHeartbeats 2000000 in
theorem counting1 (n : Nat) (hn : 1 ≤ n) (l bl bk : Nat) (A : Option Addr) (nn c : Nat) (xs : List Rcn) (known : Int) (w0 : World) (hT : RcA w0 A nn c xs)
    (J Jx : List Rcn → World → Prop) (W : World) (hW : Kept w0 W) (hl : W.cell? ⟨bl, 0, none⟩ = some (.slice A nn c)) (hk : W.cell? ⟨bk, 0, none⟩ = some (.int .i64 known)) (hJ : AbidesFrom W.heap.size J) (hlt : nn ≤ 1000000)
    (hY : ∀ pre x W1, J pre W1 → pre.length < (cntS xs known).length → YieldAt Fence.wide (n - 1) Tryz.prog l #[rcV x] W1 fun e W' =>
      (e = .returned (.bool true) ∧ J (pre ++ [x]) W' ∧ KpC w0.heap.size bk W1 W') ∨ (e = .returned (.bool false) ∧ Jx (pre ++ [x]) W'))
    (h0 : J [] W) :
    CallsIn Fence.wide n Tryz.prog 75 #[.func (.yield l) #[] #[], .pointer (some ⟨bl, 0, none⟩), .pointer (some ⟨bk, 0, none⟩)] W fun e W' => (∃ v, e = .returned v) ∧
      ((∃ ys, ys = cntS xs known ∧ J ys W') ∨ (∃ pre, pre <+: cntS xs known ∧ Jx pre W')) := by
  have HT := Lib.hid hT
  have HY := Lib.hid hY
  have HJ := Lib.hid hJ
  have Hl := Lib.hid hl
  have Hk := Lib.hid hk
  have hbl := cell_lt hl
  have hbk := cell_lt hk
  clear hT hY hJ hl hk
  have g1 : W.cell? ⟨bl, 0, none⟩ = some (.slice A nn c) := Hl.out
  have hz := hW.size
  refine callsIn_of_wp Tryz.func75 rfl trivial ?_ rfl
  simp only [Tryz.ntmps75, List.size_toArray, List.length_cons, List.length_nil, Nat.reduceAdd, Nat.reduceSub, Array.replicate_succ, Array.replicate_zero, List.push_toArray, List.append_toArray, List.nil_append, List.cons_append]
  gi_wp2
  clear g1
  gi_loopw [8] (fun i w1 => ∃ j : Nat, j ≤ nn ∧ i = .int .i64 j ∧ Kept w0 w1 ∧ W.heap.size ≤ w1.heap.size ∧ w1.cell? ⟨bk, 0, none⟩ = some (.int .i64 known) ∧ J (cntS (xs.take j) known) w1) (fun i _ => nn - (intOf i).toNat)
  case atStart => exact ⟨0, by omega, by first | rfl | go_num, hW, Nat.le_refl _, Hk.out, h0⟩
  case round =>
    obtain ⟨j, hj, rfl, hk1, hz1, d2, hJ1⟩ := hrel
    have D2 := Lib.hid d2
    have hz2 := hk1.size
    have hbkr : bk < wr.heap.size := by omega
    by_cases hlt2 : j < nn
    · obtain ⟨b, off, hA, htab⟩ := HT.out.2.2.2 (by omega)
      subst hA
      have hxl : j < xs.length := by rw [HT.out.1]; exact hlt2
      obtain ⟨x, hx⟩ : ∃ x, xs[j]? = some x := ⟨xs[j]'hxl, List.getElem?_eq_getElem hxl⟩
      obtain ⟨q0, q1, q2, q3, q4, q5⟩ := (htab j x hx).kept hk1
      have Hx := Lib.hid hx
      have hJ2 : J (cntS (xs.take j) known) (wr.alloc (.cells #[.int .i64 x.id, .int .i64 x.dy, .int .i64 x.kn, .int .i64 x.sh, .int .i64 x.tr, .int .i64 x.nu] 25)) := HJ.out _ wr _ none hJ1 (World.grownBy_alloc wr _ none) (fun r e => by cases e)
      have hk2 : Kept w0 (wr.alloc (.cells #[.int .i64 x.id, .int .i64 x.dy, .int .i64 x.kn, .int .i64 x.sh, .int .i64 x.tr, .int .i64 x.nu] 25)) := hk1.alloc _
      clear hx htab
      by_cases c2 : x.kn ≤ known
      · have HP := Lib.hid (filt_yes (p := fun x : Rcn => decide (x.kn ≤ known)) Hx.out (by simpa using c2))
        have HPre := Lib.hid (filt_prefix xs (fun x : Rcn => decide (x.kn ≤ known)) (j + 1))
        obtain ⟨fn, tmps, assign, body, hy, hR⟩ := HY.out _ x _ hJ2 (filt_lt Hx.out (by simpa using c2))
        simp only [rcV] at hy
        gi_wp2
        refine hR.mono ?_
        rintro e W3 (⟨rfl, hJ3, hk3⟩ | ⟨rfl, hJx3⟩)
        · gi_wp2
          go_roundw
          case rel => exact ⟨j + 1, by omega, by go_num, hk2.below.trans hk3.1, by have := hk3.1.size; simp at this; omega, hk3.2 _ (((Kept.refl wr).alloc _).cells _ _ hbkr |>.trans D2.out), by show J ((xs.take (j + 1)).filter _) _; rw [HP.out]; exact hJ3⟩
          case measure => simp [intOf]; omega
        · gi_wp2
          refine bodyPost_ret (results_none rfl _ _ _) rfl ?_
          exact ⟨⟨_, rfl⟩, .inr ⟨_, by have := HPre.out; rw [HP.out] at this; exact this, hJx3⟩⟩
      · have HP := Lib.hid (filt_no (p := fun x : Rcn => decide (x.kn ≤ known)) Hx.out (by simpa using c2))
        gi_wp2
        refine ⟨fun _ h => (by cases h), ?_⟩
        gi_wp2
        go_roundw
        case rel => exact ⟨j + 1, by omega, by go_num, hk2, by simp; omega, (((Kept.refl wr).alloc _).cells _ _ hbkr).trans D2.out, by show J ((xs.take (j + 1)).filter _) _; rw [HP.out]; exact hJ2⟩
        case measure => simp [intOf]; omega
    · obtain rfl : j = nn := by omega
      gi_wp2
      go_end0
      exact ⟨⟨_, rfl⟩, .inl ⟨_, rfl, by rw [List.take_of_length_le (by rw [HT.out.1]; exact Nat.le_refl _)] at hJ1; exact hJ1⟩⟩

theorem counting_stops (n : Nat) (hn : 1 ≤ n) (bl bk : Nat) (A : Option Addr) (nn c : Nat) (xs : List Rcn) (known : Int) (w0 : World) (hT : RcA w0 A nn c xs) (hlt : nn ≤ 1000000) (w : World) (hw : Kept w0 w) (hl : w.cell? ⟨bl, 0, none⟩ = some (.slice A nn c)) (hk : w.cell? ⟨bk, 0, none⟩ = some (.int .i64 known)) :
    SeqStopsK Fence.wide n Tryz.prog 75 #[.pointer (some ⟨bl, 0, none⟩), .pointer (some ⟨bk, 0, none⟩)] (fun x : Rcn => #[rcV x]) (KpC w0.heap.size bk) (fun ys => ys = cntS xs known) (fun pre => pre <+: cntS xs known) (cntS xs known).length w :=
  fun l J Jx W hW hJ hJx hY h0 => counting1 n hn l bl bk A nn c xs known w0 hT J Jx W (hw.trans hW) (((show Kept w W from hW).cells _ _ (cell_lt hl)).trans hl) (((show Kept w W from hW).cells _ _ (cell_lt hk)).trans hk) hJ hlt hY h0
end Go.Proofs.YtdeokdlkjgpffaaGreatDoor
