/-
  the iterator of counting, for rounds that change boxes beside it
  the code's Sorts
  the reference's Insert, for a list that is not empty
  the reference's Insert and Sorts
  the reference's Turns
  ShareInForce: the program's lists and the reference's are the same (no run in this text)
  ShareInForce: the law
-/
import Derived.Test.YtcjpecdnenemaaaGreatDoorGJ
import Derived.Test.YtcjpecdnenemaaaGreatDoorGQ
import Derived.Test.YtcjpecdnenemaaaGreatDoorGSs
import Derived.Test.YtcjpecdnenemaaaGreatDoorTB
import Derived.Test.YtcjpecdnenemaaaGreatDoorRX
import Derived.Test.YtcjpecdnenemaaaGreatDoorLa2
import Derived.Test.YtcjpecdnenemaaaGreatDoorGR
import Derived.Sort.OwnSorted
import Derived.RangeFuncBox
import Derived.Sort.Grow
import Derived.Lib.OwnBridge
import Derived.Maps.AppendAt
import Derived.Sort.Walk0
import Derived.Deep.DeepCutAuto
namespace Go.Proofs.YtcjpecdnenemaaaGreatDoor
set_option linter.unusedVariables false
open Go.RowKit Go.Shelf

/-- what a round leaves as it lies -/
def KpE (n₀ b : Nat) (W W' : World) : Prop := Below n₀ W W' ∧ KeepsWalks W W' ∧ (∀ v, W.cell? ⟨b, 0, none⟩ = some v → W'.cell? ⟨b, 0, none⟩ = some v)
theorem KpE.trans {n₀ b : Nat} {A B C : World} (h : KpE n₀ b A B) (k : KpE n₀ b B C) : KpE n₀ b A C := ⟨h.1.trans k.1, h.2.1.trans k.2.1, fun v hv => k.2.2 v (h.2.2 v hv)⟩
theorem KpE.of_kept {n₀ b : Nat} {W W' : World} (h : Kept W W') (hn : n₀ ≤ W.heap.size) : KpE n₀ b W W' := ⟨h.below.mono hn, h.others.walks, fun v hv => (h.cells _ _ (cell_lt hv)).trans hv⟩
theorem KpE.put {n₀ b : Nat} {w : World} (hn : n₀ ≤ w.heap.size) (W : World) (l : Nat) (o o' : Obj) (hl : w.heap.size ≤ l) (h : W.heap[l]? = some o) (hc : o.isCells = false) (hw : o.isWalk = false) : KpE n₀ b W (W.putObj l o') :=
  ⟨(Below.refl n₀ W).grown (grownBy_putObj' W l o') (by have := (Array.getElem?_eq_some_iff.1 h).1; omega) (fun k e => by cases e; omega), KeepsWalks.putObj _ h hw, fun v hv => cell_kept hv (grownBy_putObj' W l o') (fun r e => by cases e; exact ⟨_, h, hc⟩)⟩

set_option maxRecDepth 100000 in
set_option maxHeartbeats 2000000 in
theorem counting1E (n : Nat) (hn : 1 ≤ n) (l bl bk : Nat) (A : Option Addr) (nn c : Nat) (xs : List Eqv) (known : Int) (w0 : World) (hT : TabA w0 A nn c xs)
    (J Jx : List Eqv → World → Prop) (W : World) (hl : W.cell? ⟨bl, 0, none⟩ = some (.slice A nn c)) (hk : W.cell? ⟨bk, 0, none⟩ = some (.int .i64 known)) (hW : Kept w0 W) (hJ : AbidesFrom W.heap.size J) (hlt : nn ≤ 1000000)
    (hY : ∀ pre x W1, J pre W1 → pre.length < (cntS xs known).length → YieldAt Fence.wide (n - 1) Tryz.prog l #[eqV x] W1 fun e W' =>
      (e = .returned (.bool true) ∧ J (pre ++ [x]) W' ∧ KpE w0.heap.size bk W1 W') ∨ (e = .returned (.bool false) ∧ Jx (pre ++ [x]) W'))
    (h0 : J [] W) :
    CallsIn Fence.wide n Tryz.prog 165 #[.func (.yield l) #[] #[], .pointer (some ⟨bl, 0, none⟩), .pointer (some ⟨bk, 0, none⟩)] W fun e W' => (∃ v, e = .returned v) ∧
      ((∃ ys, ys = cntS xs known ∧ J ys W') ∨ (∃ pre, pre <+: cntS xs known ∧ Jx pre W')) := by
  have hmm := @run_makeMap Tryz.prog
  have HT := Lib.hid hT
  have HY := Lib.hid hY
  have HJ := Lib.hid hJ
  have Hl := Lib.hid hl
  have Hk := Lib.hid hk
  have hbl := cell_lt hl
  have hbk := cell_lt hk
  clear hT hY hJ hl hk
  have g1 : W.cell? ⟨bl, 0, none⟩ = some (.slice A nn c) := Hl.out
  have g2 : W.cell? ⟨bk, 0, none⟩ = some (.int .i64 known) := Hk.out
  have hz := hW.size
  have hblW : bl < W.heap.size := hbl
  have hbkW : bk < W.heap.size := hbk
  have m0 := Lib.hid (MapA.new k154 W)
  refine callsIn_of_wp Tryz.func165 rfl trivial ?_ rfl
  simp only [Tryz.ntmps165, List.size_toArray, List.length_cons, List.length_nil, Nat.reduceAdd, Nat.reduceSub, Array.replicate_succ, Array.replicate_zero, List.push_toArray, List.append_toArray, List.nil_append, List.cons_append]
  gi_wp2
  clear g1 g2
  gi_loopw [12] (fun i wr => ∃ k : Nat, k ≤ nn ∧ i = .int .i64 k ∧ MapA k154 wr W.heap.size (voidF (xs.take k) known) ∧ Kept W wr) (fun i _ => nn - (intOf i).toNat)
  case atStart => exact ⟨0, by omega, by first | rfl | go_num, MapA.congr k154 m0.out (fun k => by simp [voidF, voidS]), (Kept.refl _).alloc _⟩
  case round =>
    obtain ⟨k, hk, rfl, hm, hkr⟩ := hrel
    have hk0 := hW.trans hkr
    have hzr := hk0.size
    have hzk := hkr.size
    have hblr : bl < wr.heap.size := by omega
    have hbkr : bk < wr.heap.size := by omega
    have c2 : wr.cell? ⟨bk, 0, none⟩ = some (.int .i64 known) := (hkr.cells _ _ hbk).trans Hk.out
    have c1 : wr.cell? ⟨bl, 0, none⟩ = some (.slice A nn c) := (hkr.cells _ _ hbl).trans Hl.out
    have CB2 := Lib.hid c2
    by_cases hlt' : k < nn
    · obtain ⟨b, off, hA, htab⟩ := HT.out.2.2.2.2 (by omega)
      subst hA
      have hxl : k < xs.length := by rw [HT.out.1]; exact hlt'
      obtain ⟨x, hx⟩ : ∃ x, xs[k]? = some x := ⟨xs[k]'hxl, List.getElem?_eq_getElem hxl⟩
      obtain ⟨q0, q1, q2, q3, q4, q5, q6⟩ := (htab k x hx).kept hk0
      have Hx := Lib.hid hx
      have Htab := Lib.hid htab
      clear hx htab
      by_cases hd : x.kno ≤ known
      · obtain ⟨w2, r2, m2, b2, _, z2⟩ := run_mapUpdate_is k154 (T := 154) Tryz.underlying154 (MapA.kept k154 hm ((Kept.refl wr).alloc (boxX x))) x.off (.bool true)
        have K2 : Kept W w2 := (hkr.alloc (boxX x)).below.trans (b2 _ (by have := hkr.size; omega))
        have M2 := Lib.hid (MapA.congr k154 m2 (voidF_yes (xs.take k) known x hd))
        clear m2 b2
        simp only [k154, intKeys, boxX] at r2
        gi_wp2
        go_roundw
        case rel => exact ⟨k + 1, by omega, by go_num, by rw [take_snoc' Hx.out]; exact M2.out, K2⟩
        case measure => simp [intOf]; omega
      · gi_wp2
        go_roundw
        case rel => exact ⟨k + 1, by omega, by go_num, by rw [take_snoc' Hx.out]; exact MapA.congr k154 (MapA.kept k154 hm ((Kept.refl wr).alloc (boxX x))) (voidF_no (xs.take k) known x hd), hkr.alloc _⟩
        case measure => simp [intOf]; omega
    · obtain rfl : k = nn := by omega
      have hm' : MapA k154 wr W.heap.size (voidF xs known) := by rw [List.take_of_length_le (by rw [HT.out.1]; exact Nat.le_refl _)] at hm; exact hm
      clear hm hlt'
      have hJ0 : J [] wr := HJ.out [] W wr none h0 (kept_grown hkr) (fun r e => by cases e)
      gi_wp2
      gi_loopw [26] (fun i w1 => ∃ j : Nat, j ≤ k ∧ i = .int .i64 j ∧ MapA k154 w1 W.heap.size (voidF xs known) ∧ Kept w0 w1 ∧ wr.heap.size ≤ w1.heap.size ∧ w1.cell? ⟨bk, 0, none⟩ = some (.int .i64 known) ∧ J ((xs.take j).filter (cntP xs known)) w1) (fun i _ => k - (intOf i).toNat)
      case atStart => exact ⟨0, by omega, by first | rfl | go_num, hm', hk0, Nat.le_refl _, CB2.out, hJ0⟩
      case round =>
        obtain ⟨j, hj, rfl, hm1, hk1, hz1, d2, hJ1⟩ := hrel
        have CD := Lib.hid d2
        have hz2 := hk1.size
        have hblr1 : bl < wr.heap.size := by omega
        have hbkr1 : bk < wr.heap.size := by omega
        by_cases hlt2 : j < k
        · obtain ⟨b, off, hA, htab⟩ := HT.out.2.2.2.2 (by omega)
          subst hA
          have hxl : j < xs.length := by rw [HT.out.1]; exact hlt2
          obtain ⟨x, hx⟩ : ∃ x, xs[j]? = some x := ⟨xs[j]'hxl, List.getElem?_eq_getElem hxl⟩
          obtain ⟨q0, q1, q2, q3, q4, q5, q6⟩ := (htab j x hx).kept hk1
          have Hx := Lib.hid hx
          have hJ2 : J ((xs.take j).filter (cntP xs known)) (wr.alloc (boxX x)) := HJ.out _ wr _ none hJ1 (World.grownBy_alloc wr _ none) (fun r e => by cases e)
          have hk2 : Kept w0 (wr.alloc (boxX x)) := hk1.alloc _
          have m2 := MapA.kept k154 hm1 ((Kept.refl wr).alloc (boxX x))
          clear hx htab
          by_cases c1 : (x.off == 0) = true
          · by_cases c2 : decide (x.kno ≤ known) = true
            · by_cases c3 : voidS xs known x.id = true
              · have hp : cntP xs known x = false := by simp [cntP, c3]
                have r2 := run_lookup_some k154 (T := 154) Tryz.underlying154 m2 (k := x.id) (v := .bool true) (by unfold voidF; rw [if_pos c3])
                have M2 := Lib.hid m2
                have HP := Lib.hid (filt_no (p := cntP xs known) Hx.out hp)
                clear m2 hp
                simp only [k154, intKeys, boxX] at r2
                gi_wp2
                refine ⟨fun _ h => (by cases h), ?_⟩
                gi_wp2
                go_roundw
                case rel => exact ⟨j + 1, by omega, by go_num, M2.out, hk2, by simp; omega, (((Kept.refl wr).alloc (boxX x)).cells _ _ (cell_lt CD.out)).trans CD.out, by rw [HP.out]; exact hJ2⟩
                case measure => simp [intOf]; omega
              · have c3' : voidS xs known x.id = false := by simpa using c3
                have hp : cntP xs known x = true := by simp at c1 c2; simp [cntP, c1, c2, c3']
                have r2 := run_lookup_none k154 (T := 154) Tryz.underlying154 (z := .bool false) (Tryz.zeroValue4) m2 (k := x.id) (by unfold voidF; rw [if_neg c3])
                have M2 := Lib.hid m2
                have HP := Lib.hid (filt_yes (p := cntP xs known) Hx.out hp)
                have HPre := Lib.hid (filt_prefix xs (cntP xs known) (j + 1))
                obtain ⟨fn, tmps, assign, body, hy, hR⟩ := HY.out _ x (wr.alloc (boxX x)) hJ2 (filt_lt Hx.out hp)
                clear m2 hp c3
                simp only [k154, intKeys, boxX] at r2
                simp only [eqV, boxX] at hy
                gi_wp2
                refine hR.mono ?_
                rintro e W3 (⟨rfl, hJ3, hk3⟩ | ⟨rfl, hJx3⟩)
                · gi_wp2
                  go_roundw
                  case rel => exact ⟨j + 1, by omega, by go_num, MapA.walks k154 M2.out hk3.2.1, hk2.below.trans hk3.1, by have := hk3.1.size; simp at this; omega, hk3.2.2 _ ((((Kept.refl wr).alloc (boxX x)).cells _ _ (cell_lt CD.out)).trans CD.out), by rw [HP.out]; exact hJ3⟩
                  case measure => simp [intOf]; omega
                · gi_wp2
                  refine bodyPost_ret (results_none rfl _ _ _) rfl ?_
                  exact ⟨⟨_, rfl⟩, .inr ⟨_, by rw [← HP.out]; exact HPre.out, hJx3⟩⟩
            · have c2' : decide (x.kno ≤ known) = false := by simpa using c2
              have hp : cntP xs known x = false := by simp [cntP, c2']
              have M2 := Lib.hid m2
              have HP := Lib.hid (filt_no (p := cntP xs known) Hx.out hp)
              clear m2 hp c2
              gi_wp2
              refine ⟨fun _ h => (by cases h), ?_⟩
              gi_wp2
              go_roundw
              case rel => exact ⟨j + 1, by omega, by go_num, M2.out, hk2, by simp; omega, (((Kept.refl wr).alloc (boxX x)).cells _ _ (cell_lt CD.out)).trans CD.out, by rw [HP.out]; exact hJ2⟩
              case measure => simp [intOf]; omega
          · have c1' : (x.off == 0) = false := by simpa using c1
            have hp : cntP xs known x = false := by simp at c1; simp [cntP, c1]
            have M2 := Lib.hid m2
            have HP := Lib.hid (filt_no (p := cntP xs known) Hx.out hp)
            clear m2 hp c1
            gi_wp2
            refine ⟨fun _ h => (by cases h), ?_⟩
            gi_wp2
            go_roundw
            case rel => exact ⟨j + 1, by omega, by go_num, M2.out, hk2, by simp; omega, (((Kept.refl wr).alloc (boxX x)).cells _ _ (cell_lt CD.out)).trans CD.out, by rw [HP.out]; exact hJ2⟩
            case measure => simp [intOf]; omega
        · obtain rfl : j = k := by omega
          gi_wp2
          go_end0
          exact ⟨⟨_, rfl⟩, .inl ⟨_, rfl, by rw [List.take_of_length_le (by rw [HT.out.1]; exact Nat.le_refl _)] at hJ1; exact hJ1⟩⟩

/-- **the iterator of counting, whose rounds may change what lies beyond its table** -/
theorem counting_stopsE (n : Nat) (hn : 1 ≤ n) (bl bk : Nat) (A : Option Addr) (nn c : Nat) (xs : List Eqv) (known : Int) (w0 : World) (hT : TabA w0 A nn c xs) (hlt : nn ≤ 1000000) (w : World) (hl : w.cell? ⟨bl, 0, none⟩ = some (.slice A nn c)) (hk : w.cell? ⟨bk, 0, none⟩ = some (.int .i64 known)) (hw : Kept w0 w) :
    SeqStopsK Fence.wide n Tryz.prog 165 #[.pointer (some ⟨bl, 0, none⟩), .pointer (some ⟨bk, 0, none⟩)] (fun x : Eqv => #[eqV x]) (KpE w0.heap.size bk) (fun ys => ys = cntS xs known) (fun pre => pre <+: cntS xs known) (cntS xs known).length w :=
  fun l J Jx W hW hJ hJx hY h0 => counting1E n hn l bl bk A nn c xs known w0 hT J Jx W ((Kept.cells hW _ _ (cell_lt hl)).trans hl) ((Kept.cells hW _ _ (cell_lt hk)).trans hk) (hw.trans hW) hJ hlt hY h0
end Go.Proofs.YtcjpecdnenemaaaGreatDoor

namespace Go.Proofs.YtcjpecdnenemaaaGreatDoor
set_option linter.all false
open Go.RowKit Go.Shelf Go.Sort
attribute [local go_sem] Oper.semAt_some

/-- the sorts of the records that count and have begun -/
def lowS (day : Int) (l : List Eqv) : List (List UInt8) := (l.filter (fun x => decide (x.frm ≤ day))).map (fun x => x.sort.data.toList)
theorem lowS_yes {day : Int} {l : List Eqv} {x : Eqv} (h : decide (x.frm ≤ day) = true) : lowS day (l ++ [x]) = lowS day l ++ [x.sort.data.toList] := by unfold lowS; rw [List.filter_append, List.map_append]; simp [List.filter_cons, h]
theorem lowS_no {day : Int} {l : List Eqv} {x : Eqv} (h : decide (x.frm ≤ day) = false) : lowS day (l ++ [x]) = lowS day l := by unfold lowS; rw [List.filter_append]; simp [List.filter_cons, h]
theorem lowS_len (day : Int) (l : List Eqv) : (lowS day l).length ≤ l.length := by unfold lowS; rw [List.length_map]; exact List.length_filter_le _ _
/-- what Sorts gives -/
def sortsS (xs : List Eqv) (day known : Int) : List (List UInt8) := if (chkS xs).2 = 0 then Lib.compact ((lowS day (cntS xs known)).mergeSort fun x y => decide (x ≤ y)) else []
def StrRes (w : World) (zs : List (List UInt8)) (e : Ending) (w' : World) : Prop := ∃ v, e = .returned v ∧ w'.ownsRow w.heap.size 9 1 v zs.length (zs.map encStr) ∧ Kept w w'
theorem info9t : (Tryz.prog.info? 9).map (fun i => (i.zero, i.size, i.bytes)) = some (some (.string ByteArray.empty), 1, 16) := by kernel_rfl
theorem encStr_of (s : ByteArray) : encStr s.data.toList = .string s := by cases s; rfl
theorem left_ofS {w w1 : World} {g cap nn q : Nat} {os : Array Obj} {zs : List (List UInt8)} (hown : w1.ownsRow w.heap.size 9 1 (.slice (some ⟨g, 0, none⟩) zs.length cap) zs.length (zs.map encStr)) (hbel : Kept w w1) :
    StrRes w (Lib.compact (zs.mergeSort fun x y => decide (x ≤ y))) (.returned (.slice (some ⟨g, 0, none⟩) (Lib.compact (zs.mergeSort fun x y => decide (x ≤ y))).length cap))
      (putRow encStr (Sort.ahead (grow (putRow encStr (Sort.ahead w1 nn) g 0 (zs.mergeSort fun x y => decide (x ≤ y)).toArray) os) q) g 0 (Lib.compact (zs.mergeSort fun x y => decide (x ≤ y)) ++ List.replicate (zs.length - (Lib.compact (zs.mergeSort fun x y => decide (x ≤ y))).length) []).toArray) := by
  have hl2 : (zs.mergeSort fun x y => decide (x ≤ y)).length = zs.length := List.length_mergeSort zs
  have hle := Lib.compact_length_le (zs.mergeSort fun x y => decide (x ≤ y))
  rcases hown.2 with ⟨h0, _⟩ | ⟨g', cap', cur, hv, hbase, hb, h1, h2, h3, h4⟩
  · cases h0
  cases hv
  have hs := ownsRow_sorted (n := nn) (os := os) (ts := zs.mergeSort fun x y => decide (x ≤ y)) hl2 hbase hb h1 h2 h3
  have hc := Lib.ownsRow_putRow (q := q) (k := (Lib.compact (zs.mergeSort fun x y => decide (x ≤ y))).length) (ys := Lib.compact (zs.mergeSort fun x y => decide (x ≤ y)) ++ List.replicate (zs.length - (Lib.compact (zs.mergeSort fun x y => decide (x ≤ y))).length) []) hs (by simp; omega) (by omega)
  rw [List.take_left] at hc
  exact ⟨_, rfl, hc, Lib.below_putRow (hbel.below.grown (grownBy_sorted _) hbel.size (fun j hj => by cases hj; exact hbase)) hbase⟩

/-- 'sorts = append(sorts, s)' in a round -/
theorem appendedE {W w1 : World} {n0 n2 B bk : Nat} {t e : TypeId} {size : Nat} {v v' : Value} {k m : Nat} {xs ys : List Value} {tmp : Obj}
    (hv : Boxed W B t v) (hte : t ≠ e) (hrow : W.ownsRow n2 e size v k xs) (hsz : n2 ≤ W.heap.size) (hn0 : n0 ≤ B) (hB : B < n2) (hbk : bk < n2) (hne : B ≠ bk) (hn : n0 ≤ n2)
    (hown' : w1.ownsRow n2 e size v' m ys) (hgrow : (W.alloc tmp).grownBy w1 v.ownBlock) :
    Boxed w1 B t v ∧ Boxed (w1.setCell ⟨B, 0, none⟩ v') B t v' ∧ (w1.setCell ⟨B, 0, none⟩ v').ownsRow n2 e size v' m ys ∧ KpE n0 bk W (w1.setCell ⟨B, 0, none⟩ v') ∧ KeepsOthers W (w1.setCell ⟨B, 0, none⟩ v') ∧ (∀ b vs, b < n2 → b ≠ B → RowC W b vs → RowC (w1.setCell ⟨B, 0, none⟩ v') b vs) := by
  have hob : ∀ j, v.ownBlock = some j → n2 ≤ j := fun j ej => by
    rcases hrow.2 with ⟨rfl, _⟩ | ⟨g, cap, cur, rfl, hb, _, _⟩
    · simp [Value.ownBlock] at ej
    · obtain rfl : g = j := by simpa [Value.ownBlock] using ej
      exact hb
  have hv1 : Boxed w1 B t v := (hv.alloc tmp).kept hgrow (hv.not_row hte hrow)
  have hko : KeepsOthers W (w1.setCell ⟨B, 0, none⟩ v') := by
    refine ((KeepsOthers.alloc W tmp).trans (KeepsOthers.of_grownBy hgrow fun j o ej hj => ?_)).trans (KeepsOthers.setCell _ _ _)
    rcases (hrow.alloc tmp).2 with ⟨rfl, _⟩ | ⟨g, cap, cur, rfl, _, hgb, _⟩
    · simp [Value.ownBlock] at ej
    · obtain rfl : g = j := by simpa [Value.ownBlock] using ej
      rw [hgb] at hj; cases hj; rfl
  have hblk : ∀ b, b < n2 → b < W.heap.size → w1.heap[b]? = W.heap[b]? := fun b hb hbW =>
    (hgrow.block b (by simp; omega) (fun e => by have := hob b e.symm; omega)).trans (Below.heap_alloc W tmp b hbW)
  have hcell : ∀ b j, b < n2 → b < W.heap.size → w1.cell? ⟨b, j, none⟩ = W.cell? ⟨b, j, none⟩ := fun b j hb hbW => by
    unfold World.cell?
    rw [show (⟨b, j, none⟩ : Addr).block = b from rfl, hblk b hb hbW]
  have hfroz : ∀ b j, b < n2 → b < W.heap.size → w1.frozen? ⟨b, j, none⟩ = W.frozen? ⟨b, j, none⟩ := fun b j hb hbW => by
    unfold World.frozen?
    rw [show (⟨b, j, none⟩ : Addr).block = b from rfl, hblk b hb hbW]
  have hr2 : (w1.setCell ⟨B, 0, none⟩ v').ownsRow n2 e size v' m ys := ownsRow_setCell_below hown' (a := ⟨B, 0, none⟩) hB _
  refine ⟨hv1, hv1.set v', hr2, ⟨?_, hko.walks, fun u hu => ?_⟩, hko, fun b vs hb hbB hr => ?_⟩
  · have h1 : Below n0 W (W.alloc tmp) := (Below.refl n0 W).alloc (by omega) _
    exact (h1.grown hgrow (by simp; omega) (fun j ej => by have := hob j ej; omega)).setCell (p := ⟨B, 0, none⟩) hn0 _
  · rw [World.cell?_setCell_far _ _ _ _ (by simpa using hne), hcell bk 0 hbk (cell_lt hu)]; exact hu
  · intro j u hu
    have hlt := cell_lt (hr j u hu).1
    refine ⟨?_, ?_⟩
    · rw [World.cell?_setCell_far _ _ _ _ (by simpa using fun e => hbB e.symm), hcell b j hb hlt]; exact (hr j u hu).1
    · have := (hr j u hu).2
      rw [← hfroz b j hb hlt] at this
      simpa [go_sem] using this

theorem chk_fst {xs : List Eqv} (h : (chkS xs).2 = 0) : (chkS xs).1 = 0 := by
  unfold chkS at h ⊢
  split
  · rename_i i hi
    rw [hi] at h
    have := List.find?_some hi
    simp only at h
    simp [h] at this
  · rfl
theorem putDefE {w V : World} {D : Nat} {o o' : Obj} (h : Kept w V) (hD : w.heap.size ≤ D) (hK : V.heap[D]? = some o') : Kept w (V.putObj D o) :=
  Below.grown h (grownBy_putObj' V D o) h.size (fun k e => by cases e; exact hD)
theorem heap_putRow {enc : List UInt8 → Value} (V : World) (g q D : Nat) (d : Array (List UInt8)) (hne : D ≠ g) : (putRow enc (Sort.ahead V q) g 0 d).heap[D]? = V.heap[D]? := by
  simp [putRow, mapBlock, Sort.ahead, Array.getElem?_modify, show g ≠ D by omega]
theorem cnt_len (xs : List Eqv) (known : Int) : (cntS xs known).length ≤ xs.length := by unfold cntS; exact List.length_filter_le _ _
theorem sorts_err (A : Option Addr) (n c : Nat) (xs : List Eqv) (day known : Int) (w : World) (hT : TabA w A n c xs) (hc : (chkS xs).2 ≠ 0) :
    Calls Tryz.prog 51 #[.slice A n c, .int .i64 day, .int .i64 known] w (StrRes w (sortsS xs day known)) := by
  have e0 : sortsS xs day known = [] := by unfold sortsS; rw [if_neg hc]
  rw [e0]
  have HC := Lib.hid (check_any A n c xs _ (hT.kept ((Kept.refl w).alloc (.cells #[.int .i64 day] 3))))
  obtain ⟨p, hp⟩ : ∃ p, p = (chkS xs).1 := ⟨_, rfl⟩
  obtain ⟨q, hq⟩ : ∃ q, q = (chkS xs).2 := ⟨_, rfl⟩
  rw [← hp, ← hq] at HC
  rw [← hq] at hc
  have hqb : (q != 0) = true := by simpa using hc
  clear hp hq
  go_enter Tryz.func51, Tryz.ntmps51
  go_wp2_with fail
  refine HC.out.mono ?_
  rintro e w1 ⟨rfl, hk1⟩
  go_wp2
  go_ret
  exact ⟨_, rfl, ⟨rfl, .inl ⟨rfl, rfl⟩⟩, ((Kept.refl w).alloc _).trans hk1⟩
/-- Sorts' own variables between two rounds; the round's frame -/
def SI (B bd n2 : Nat) (day : Int) (w : World) (pre : List Eqv) (W : World) : Prop := RowC W bd [.int .i64 day] ∧ (∃ v, Boxed W B 52 v ∧ W.ownsRow n2 9 1 v (lowS day pre).length ((lowS day pre).map encStr) ∧ True) ∧ Below w.heap.size w W
theorem SI.own (B bd n2 : Nat) (day : Int) (w : World) (B' : Nat) (hB : w.heap.size ≤ B') : OwnFrom B' (SI B bd n2 day w) :=
  OwnFrom.and (RowC.own _ _ (fun _ => _)) (OwnFrom.and (Own.from (holdsRow_own n2 B 52 9 1 (fun pre => (lowS day pre).length) (fun pre => (lowS day pre).map encStr) (fun _ _ => True)) _) (ownFrom_below (Nat.le_refl _) hB))
def SA (bd B : Nat) (day known : Int) (A : Option Addr) (n c : Nat) (x : Eqv) (a' : Act) (W : World) : Prop :=
  ∃ Bx, B < Bx ∧ RowC W Bx (eqCells x) ∧ a' = { tmps := #[.slice A n c, .int .i64 day, .int .i64 known, undef, .pointer (some ⟨bd, 0, none⟩), undef, .slice none 0 0, .int .i64 0, .int .i64 0, .pointer (some ⟨B, 0, none⟩), .pointer (some ⟨Bx, 0, none⟩), .tuple #[.int .i64 0, .int .i64 0], .slice A n c, .tuple #[.int .i64 0, .int .i64 0], .int .i64 0, .int .i64 0, .int .i64 0, .bool false, .slice A n c, .int .i64 known, .func (.func 165) #[] #[.pointer (some ⟨B + 1, 0, none⟩), .pointer (some ⟨B + 1 + 1, 0, none⟩)], eqV x, undef, undef, undef, undef, undef, undef, undef, undef, undef, undef, undef, undef, undef], defers := [] }
theorem SA.own (bd B : Nat) (day known : Int) (A : Option Addr) (n c : Nat) (x : Eqv) (a' : Act) (B' : Nat) : OwnFrom B' (fun (_ : Unit) W => SA bd B day known A n c x a' W) := by
  rintro s W W' row ⟨Bx, h1, h2, h3⟩ hg hr
  exact ⟨Bx, h1, RowC.own B' Bx (fun (_ : Unit) => eqCells x) s W W' row h2 hg hr, h3⟩

set_option maxRecDepth 100000 in
set_option maxHeartbeats 4000000 in
theorem sorts_ok (A : Option Addr) (n c : Nat) (xs : List Eqv) (day known : Int) (w : World) (hT : TabA w A n c xs) (hlt : n ≤ 1000000) (hc : (chkS xs).2 = 0) :
    Calls Tryz.prog 51 #[.slice A n c, .int .i64 day, .int .i64 known] w (StrRes w (sortsS xs day known)) := by
  have e0 : sortsS xs day known = Lib.compact ((lowS day (cntS xs known)).mergeSort fun x y => decide (x ≤ y)) := by unfold sortsS; rw [if_pos hc]
  have HS := Lib.hid e0
  clear e0
  have HT := Lib.hid hT
  obtain ⟨W0, hW0⟩ : ∃ W0, W0 = w.alloc (.cells #[.int .i64 day] 3) := ⟨_, rfl⟩
  have k0 : Kept w W0 := by rw [hW0]; exact ((Kept.refl _).alloc _)
  have R0 : RowKit.Hid (RowC W0 w.heap.size [.int .i64 day]) := Lib.hid (by rw [hW0]; exact RowC.new w [.int .i64 day] 3)
  have HC : RowKit.Hid (Calls Tryz.prog 36 #[.slice A n c] W0 fun e w' => e = .returned (.tuple #[.int .i64 0, .int .i64 0]) ∧ Kept W0 w') := Lib.hid (by
    have := check_any A n c xs W0 (hT.kept k0)
    have e1 : (chkS xs).1 = 0 := chk_fst hc
    rw [hc, e1] at this
    exact this)
  have HW := Lib.hid hW0
  have K0 := Lib.hid k0
  clear hW0 k0 hT
  refine (callsIn_wide (n := 5)).1 ?_
  refine callsIn_of_wp_marks Tryz.func51 rfl trivial ?_ rfl
  simp only [Tryz.ntmps51, List.size_toArray, List.length_cons, List.length_nil, Nat.reduceAdd, Nat.reduceSub, Array.replicate_succ, Array.replicate_zero, List.push_toArray, List.append_toArray, List.nil_append, List.cons_append]
  gi_wp2_with fail
  rw [← HW.out]
  refine ⟨trivial, ?_⟩
  refine (callsIn_wide.2 HC.out).mono ?_
  rintro e w1 ⟨rfl, hk1⟩
  obtain ⟨B, hB⟩ : ∃ B, B = w1.heap.size := ⟨_, rfl⟩
  gi_wp2_with fail
  refine ⟨trivial, ?_⟩
  refine (callsIn_wide.2 (counting_any A n c known _)).mono ?_
  rintro e w2 ⟨rfl, hw2⟩
  gi_wp2_with fail
  rw [← hw2, ← hB]
  have kW1 : Kept w w1 := K0.out.trans hk1
  have kW2 : Kept w1 w2 := by rw [hw2]; exact (((Kept.refl _).alloc _).alloc _).alloc _
  have zB : w2.heap.size = B + 3 := by rw [hw2, hB]; simp
  have rd : RowC w2 w.heap.size [.int .i64 day] := (R0.out.kept hk1).kept kW2
  have rB : Boxed w2 B 52 (.slice none 0 0) := by rw [hw2, hB]; exact ((Boxed.new w1 52 (.slice none 0 0)).alloc _).alloc _
  have t1 : w2.cell? ⟨B + 1, 0, none⟩ = some (.slice A n c) := by
    have h := ((RowC.new (w1.alloc (.cells #[.slice none 0 0] 52)) [.slice A n c] 35).kept ((Kept.refl _).alloc (.cells #[.int .i64 known] 3)) 0 _ rfl).1
    rw [World.size_alloc, ← hB] at h
    rw [hw2]; exact h
  have t2 : w2.cell? ⟨B + 1 + 1, 0, none⟩ = some (.int .i64 known) := by
    have h := ((RowC.new ((w1.alloc (.cells #[.slice none 0 0] 52)).alloc (.cells #[.slice A n c] 35)) [.int .i64 known] 3) 0 _ rfl).1
    rw [World.size_alloc, World.size_alloc, ← hB] at h
    rw [hw2]; exact h
  have hBw : w.heap.size < B := by rw [hB]; exact cell_lt ((R0.out.kept hk1) 0 _ rfl).1
  have kW := kW1.trans kW2
  have I0 : SI B w.heap.size w2.heap.size day w [] w2 := ⟨rd, ⟨_, rB, World.ownsRow_nil _ _ _ _, trivial⟩, kW.below⟩
  have HK := Lib.hid kW
  have ZB := Lib.hid zB
  clear hw2 kW1 kW2 zB rd rB hB hk1
  refine wpIn_rangeFunc_ownH rfl (by omega) (gf := 165) (lb := #[.pointer (some ⟨B + 1, 0, none⟩), .pointer (some ⟨B + 1 + 1, 0, none⟩)]) rfl trivial (enters_of Tryz.func165 (by kernel_rfl) rfl)
    (counting_stopsE (5 - 1) (by omega) (B + 1) (B + 1 + 1) A n c xs known w HT.out hlt w2 t1 t2 kW) KpE.trans (KpE.put kW.size) (Below.refl _ _) (fun _ => rfl)
    (SI B w.heap.size w2.heap.size day w) (fun _ _ _ => False) (SI.own _ _ _ _ _ _ kW.size) (fun _ _ _ _ _ hs _ _ => hs) I0 (SA w.heap.size B day known A n c) (fun x a' => SA.own _ _ _ _ _ _ _ _ _ _) ?assign ?body ?done ?stop
  case assign =>
    intro l pre x V K hi hK
    dsimp only [eqV]
    gi_wp2
    have hst : B < V.heap.size := by obtain ⟨v, hv, _⟩ := hi.2.1; exact hv.lt
    have hV : w.heap.size ≤ V.heap.size := hi.2.2.size
    exact hK _ _ ((KeepsOthers.alloc _ _).from _) (KpE.of_kept ((Kept.refl V).alloc _) hV) (OwnFrom.alloc (B := w2.heap.size) (SI.own _ _ _ _ _ _ HK.out.size) _ hi) ⟨V.heap.size, hst, RowC.new V (eqCells x) 37, rfl⟩
  case body =>
    rintro l pre x a' V hl ⟨r, hr⟩ hi ⟨Bx, hBx, bX, rfl⟩ hlt2
    obtain ⟨i0, hi0, hz0, hz1, hz2⟩ := info_parts info9t
    have hlen : (cntS xs known).length ≤ 1000000 := by have := cnt_len xs known; have := HT.out.1; omega
    have hwl := lowS_len day pre
    have x0 := (bX 0 _ rfl).1
    have x1 := (bX 1 _ rfl).1
    have x2 := (bX 2 _ rfl).1
    have x3 := (bX 3 _ rfl).1
    have x4 := (bX 4 _ rfl).1
    have x5 := (bX 5 _ rfl).1
    have x6 := (bX 6 _ rfl).1
    have hxV := cell_lt x0
    have hsz : w2.heap.size ≤ V.heap.size := by have := (Array.getElem?_eq_some_iff.1 hr).1; omega
    obtain ⟨rd, ⟨v, hv, hrow, _⟩, hkV⟩ := hi
    have q0 := (rd 0 _ rfl).1
    have hBV := hv.lt
    have RD := Lib.hid rd
    have HV := Lib.hid hv
    have HR := Lib.hid hrow
    have HKV := Lib.hid (show Kept w V from hkV)
    have hszw := HKV.out.size
    have hq0 := cell_lt q0
    clear bX I0 rd
    rcases hd : decide (x.frm ≤ day) with _ | _
    · have HD := Lib.hid (lowS_no (l := pre) hd)
      gi_wp2_with fail
      exact ⟨(KeepsOthers.refl _).from _, KpE.of_kept (Kept.refl V) hszw, RD.out, ⟨v, HV.out, by rw [HD.out]; exact HR.out, trivial⟩, HKV.out⟩
    · have HD := Lib.hid (lowS_yes (l := pre) hd)
      have hc := hv.cell
      gi_wp2_with (gi_at_builtin; refine wpListIn_append_own _ rfl _ _ 52 rfl w2.heap.size 9 i0 (.string ByteArray.empty) 1 16 Tryz.underlying52 hi0 hz0 hz1 hz2 rfl (by decide) _ _ _ rfl (hrow.alloc _) ⟨V.heap.size, 0, none⟩ 1 1 [.string x.sort] rfl rfl (cell_one_new _ _ _) (by simp [Value.oneCell']) (by unfold maxLen; omega) (by omega) (by simp; omega) ?_; intro v' w4 hown' hgrow _; obtain ⟨g', cap', rfl⟩ := ownsRow_succ hown'; obtain ⟨hv1, hv2, hr2, hk2, ho2, hrr⟩ := appendedE (n0 := w.heap.size) (n2 := w2.heap.size) (bk := B + 1 + 1) hv (by decide) hrow (by omega) (by omega) (by have := ZB.out; omega) (by have := ZB.out; omega) (by omega) (by have := ZB.out; omega) hown' hgrow; have hc1 := hv1.cell; have hf1 := hv1.frozen)
      exact ⟨ho2.from _, hk2, hrr _ _ (by have := ZB.out; omega) (by omega) RD.out, ⟨_, hv2, by rw [HD.out]; simpa [encStr_of] using hr2, trivial⟩, HKV.out.below.trans hk2.1⟩
  case done =>
    rintro D ys V hD rfl ⟨rd, ⟨v, hv, hrow, _⟩, hkV⟩ hK
    have hc := hv.cell
    have hszw := HK.out.size
    obtain ⟨zs, hz⟩ : ∃ zs, zs = lowS day (cntS xs known) := ⟨_, rfl⟩
    have HS2 : RowKit.Hid (sortsS xs day known = Lib.compact (zs.mergeSort fun x y => decide (x ≤ y))) := Lib.hid (by rw [HS.out, hz])
    have hzl : zs.length ≤ 1000000 := by rw [hz]; have := lowS_len day (cntS xs known); have := cnt_len xs known; have := HT.out.1; omega
    rw [← hz] at hrow
    clear hz I0
    have hrowB := own_base hrow hszw
    rcases own_form hrow with ⟨hnn, hz0⟩ | ⟨g1, c1, hnn', _⟩
    · have hz1 : zs = [] := List.eq_nil_of_length_eq_zero hz0
      subst hnn hz1
      have cSort := Lib.hid (Tryz.slices_Sort_string_none none 0 V)
      have cComp := Lib.hid (Tryz.slices_Compact_string_empty none 0 V)
      have HRB := Lib.hid hrowB
      clear hz0 hrow hrowB
      gi_wp2_with fail
      refine ⟨trivial, ?_⟩
      refine (callsIn_wide.2 cSort.out).mono ?_
      rintro e w3 ⟨rfl, rfl⟩
      gi_wp2_with fail
      refine ⟨trivial, ?_⟩
      refine (callsIn_wide.2 cComp.out).mono ?_
      rintro e w3 ⟨rfl, rfl⟩
      gi_wp2
      refine ⟨by simp, .inl ⟨_, _, rfl, run_takeDeferred hK, ?_⟩⟩
      have hr2 := ownsRow_putObj HRB.out (.deferred none) hK rfl
      refine ⟨_, results_tmp rfl _ _ _, _, rfl, ?_, putDefE hkV (by omega) hK⟩
      rw [HS2.out, show Lib.compact (([] : List (List UInt8)).mergeSort fun x y => decide (x ≤ y)) = [] by simp [Lib.compact, Lib.compactUpTo]]
      exact hr2
    · have hnn : v ≠ .slice none 0 0 := by rw [hnn']; intro h; cases h
      clear hnn'
      obtain ⟨g0, cap0, rfl, hbg, hgl, hncap, hcm, hlen, hH⟩ := Lib.holds_of_ownsRow hrow hnn
      have hne : D ≠ g0 := by
        intro e
        rcases hrow.2 with ⟨h0, _⟩ | ⟨g', cap', cur, hv', _, hb', _⟩
        · cases h0
        · cases hv'
          rw [e] at hK
          rw [hK] at hb'
          cases hb'
      have hl2 : (zs.mergeSort fun x y => decide (x ≤ y)).length = zs.length := List.length_mergeSort zs
      have cSort := Lib.hid (Tryz.slices_Sort_string g0 0 cap0 zs V hH hgl (by omega))
      have cComp : RowKit.Hid (∀ nn os, Calls Tryz.prog 119 #[.slice (some ⟨g0, 0, none⟩) zs.length cap0] (grow (putRow encStr (Sort.ahead V nn) g0 0 (zs.mergeSort fun x y => decide (x ≤ y)).toArray) os) fun e w' =>
          e = .returned (.slice (some ⟨g0, 0, none⟩) (Lib.compact (zs.mergeSort fun x y => decide (x ≤ y))).length cap0) ∧ ∃ q, w' = putRow encStr (Sort.ahead (grow (putRow encStr (Sort.ahead V nn) g0 0 (zs.mergeSort fun x y => decide (x ≤ y)).toArray) os) q) g0 0 (Lib.compact (zs.mergeSort fun x y => decide (x ≤ y)) ++ List.replicate (zs.length - (Lib.compact (zs.mergeSort fun x y => decide (x ≤ y))).length) []).toArray) := Lib.hid (fun nn os => by
        have hH2 : Holds encStr (grow (putRow encStr (Sort.ahead V nn) g0 0 (zs.mergeSort fun x y => decide (x ≤ y)).toArray) os) g0 0 (zs.mergeSort fun x y => decide (x ≤ y)).toArray :=
          holds_grow _ _ os g0 0 _ (by simpa [putRow, mapBlock, Sort.ahead] using hgl) (holds_putRow _ _ g0 0 _ _ (holds_ahead _ V nn g0 0 _ hH) (by simp))
        have := Tryz.slices_Compact_string g0 0 cap0 (zs.mergeSort fun x y => decide (x ≤ y)) _ hH2 (by omega) (by omega)
        rwa [hl2] at this)
      have hcB : RowKit.Hid (∀ nn os, (grow (putRow encStr (Sort.ahead V nn) g0 0 (zs.mergeSort fun x y => decide (x ≤ y)).toArray) os).cell? ⟨B, 0, none⟩ = some (.slice (some ⟨g0, 0, none⟩) zs.length cap0)) := Lib.hid (fun nn os => by
        have hb := (grownBy_sorted (w := V) (g := g0) (n := nn) (os := os) (zs.mergeSort fun x y => decide (x ≤ y)).toArray).block B (hv.lt) (fun e => by have : B = g0 := (by simpa using e); have := ZB.out; omega)
        unfold World.cell? at hc ⊢
        rw [show (⟨B, 0, none⟩ : Addr).block = B from rfl] at hc ⊢
        rw [hb]; exact hc)
      have hKD : RowKit.Hid (∀ nn os q d2, (putRow encStr (Sort.ahead (grow (putRow encStr (Sort.ahead V nn) g0 0 (zs.mergeSort fun x y => decide (x ≤ y)).toArray) os) q) g0 0 d2).heap[D]? = some (.deferred (some []))) := Lib.hid (fun nn os q d2 => by
        rw [heap_putRow _ _ _ _ _ hne]
        rw [(grownBy_sorted (w := V) (g := g0) (n := nn) (os := os) (zs.mergeSort fun x y => decide (x ≤ y)).toArray).block D (Array.getElem?_eq_some_iff.1 hK).1 (fun e => hne (by simpa using e))]
        exact hK)
      have HRB := Lib.hid hrowB
      have HKV := Lib.hid hkV
      clear hH hrow hrowB hkV hK
      gi_wp2_with fail
      refine ⟨trivial, ?_⟩
      refine (callsIn_wide.2 cSort.out).mono ?_
      rintro e w3 ⟨rfl, nn, os, rfl⟩
      have hc2 := hcB.out nn os
      gi_wp2_with fail
      refine ⟨trivial, ?_⟩
      refine (callsIn_wide.2 (cComp.out nn os)).mono ?_
      rintro e w4 ⟨rfl, q, rfl⟩
      gi_wp2
      refine ⟨by simp, .inl ⟨_, _, rfl, run_takeDeferred (hKD.out _ _ _ _), ?_⟩⟩
      obtain ⟨v5, hv5, hr5, hk5⟩ := left_ofS (nn := nn) (os := os) (q := q) HRB.out HKV.out
      have hr2 := ownsRow_putObj hr5 (.deferred none) (hKD.out _ _ _ _) rfl
      refine ⟨_, results_tmp rfl _ _ _, _, rfl, ?_, putDefE hk5 (by omega) (hKD.out _ _ _ _)⟩
      rw [HS2.out]
      cases hv5
      exact hr2
  case stop =>
    rintro D c pre V hD hp h _
    exact h.elim
theorem sorts_any (A : Option Addr) (n c : Nat) (xs : List Eqv) (day known : Int) (w : World) (hT : TabA w A n c xs) (hlt : n ≤ 1000000) :
    Calls Tryz.prog 51 #[.slice A n c, .int .i64 day, .int .i64 known] w (StrRes w (sortsS xs day known)) := by
  by_cases hc : (chkS xs).2 = 0
  · exact sorts_ok A n c xs day known w hT hlt hc
  · exact sorts_err A n c xs day known w hT hc
end Go.Proofs.YtcjpecdnenemaaaGreatDoor

namespace Go.Proofs.YtcjpecdnenemaaaGreatDoor
set_option linter.all false
open Go.RowKit Go.Shelf

theorem addr_off (b o j : Nat) : (⟨b, o, none⟩ : Addr).add j = ⟨b, o + j, none⟩ := by
  unfold Addr.add
  split
  · rename_i h; subst h; rfl
  · rfl
set_option maxRecDepth 100000 in
set_option maxHeartbeats 8000000 in
theorem insert_mid (b off n c : Nat) (ss : List ByteArray) (s : ByteArray) (w : World) (hT : StA_s w (some ⟨b, off, none⟩) n c ss) (hlen : n ≤ 1000) (k : Nat) (hkk : 0 < k) (hk : k < n) (hpre : ∀ j z, ss[j]? = some z → j < k → Op.bytesLess z.toList s.toList = true) (hst : ∀ z, ss[k]? = some z → Op.bytesLess z.toList s.toList = false ∧ (z.toList == s.toList) = false) :
    Calls Tryz.prog 120 #[.slice (some ⟨b, off, none⟩) n c, .string s] w (WordsRes w (ss.take k ++ [s] ++ ss.drop k)) := by
  obtain ⟨i0, hi0, hz0, hz1, hz2⟩ := info_parts info9
  have HT := Lib.hid hT
  have hnc := hT.2.1
  have hcm := hT.2.2.1
  have hsl := hT.1
  have HPRE := Lib.hid hpre
  have HST := Lib.hid hst
  clear hst
  clear hT hpre
  have HC : RowKit.Hid (∀ W, Kept w W → ∀ j z, ss[j]? = some z → W.cell? ⟨b, off + j, none⟩ = some (.string z)) := Lib.hid (fun W hW j z hz => by
    obtain ⟨b', o', e', h'⟩ := HT.out.2.2.2 j z hz
    cases e'
    exact (hW.cells _ _ (cell_lt h')).trans h')
  go_enter Tryz.func120, Tryz.ntmps120
  go_wp2_with fail
  go_loopw [5] (fun i wr => ∃ j : Nat, j ≤ k ∧ i = .int .i64 j ∧ wr = w) (fun i _ => k - (intOf i).toNat)
  case atStart => exact ⟨0, by omega, by first | rfl | go_num, rfl⟩
  case round =>
    obtain ⟨j, hj, rfl, rfl⟩ := hrel
    obtain ⟨w, rfl⟩ : ∃ w, w = wr := ⟨_, rfl⟩
    by_cases hjk : j < k
    · have hjl : j < ss.length := by omega
      obtain ⟨z, hz⟩ : ∃ z, ss[j]? = some z := ⟨ss[j]'hjl, List.getElem?_eq_getElem hjl⟩
      have q0 := HC.out w (Kept.refl _) j z hz
      have hb := HPRE.out j z hz hjk
      have i0' : (0 : Int) ≤ (j : Int) := by omega
      have i1 : (j : Int) < (n : Int) := by omega
      clear hz
      go_wp2
      go_roundw
      case rel => exact ⟨j + 1, by omega, by go_num, by first | rfl | trivial⟩
      case measure => simp [intOf]; omega
    obtain rfl : j = k := by omega
    have k0 : (0 : Int) ≤ (j : Int) := by omega
    have k1 : (j : Int) ≤ (n : Int) := by omega
    obtain ⟨k, rfl⟩ : ∃ k, k = j := ⟨_, rfl⟩
    have hkl : k < ss.length := by omega
    obtain ⟨y, hy⟩ : ∃ y, ss[k]? = some y := ⟨ss[k]'hkl, List.getElem?_eq_getElem hkl⟩
    have q9 := HC.out w (Kept.refl _) k y hy
    
    obtain ⟨hb1, hb2⟩ := HST.out y hy
    have y0 : (0 : Int) ≤ ((k : Nat) : Int) := by omega
    have y1 : ((k : Nat) : Int) < (n : Int) := by omega
    clear hy
    have ka : Kept w ((w.drew.alloc (.cells #[] 9)).alloc (.cells #[.string s] 9)) := (((Kept.refl w).drew).alloc _).alloc _
    have kb : Kept w ((w.drew.alloc (.cells #[.string s] 9)).alloc (.cells #[] 9)) := (((Kept.refl w).drew).alloc _).alloc _
    have kc : Kept w (w.drew.alloc (.cells #[] 9)) := ((Kept.refl w).drew).alloc _
    have sa : ((w.drew.alloc (.cells #[] 9)).alloc (.cells #[.string s] 9)).heap[w.heap.size + 1]? = some (.cells #[.string s] 9 (0, 0)) := by
      have h := heap_alloc_new (w.drew.alloc (.cells #[] 9)) (.cells #[.string s] 9)
      rwa [show (w.drew.alloc (.cells #[] 9)).heap.size = w.heap.size + 1 by simp] at h
    have sb : ((w.drew.alloc (.cells #[.string s] 9)).alloc (.cells #[] 9)).heap[w.heap.size]? = some (.cells #[.string s] 9 (0, 0)) := (((Kept.refl (w.drew.alloc (.cells #[.string s] 9))).alloc (.cells #[] 9)).block w.heap.size (by simp)).trans (heap_alloc_new w.drew (.cells #[.string s] 9))
    have HLT : RowKit.Hid (((ss.take k).map Value.string).length = k * 1) := Lib.hid (by simp; omega)
    have HN : RowKit.Hid (∀ W, Kept w W → ∀ j u, ((ss.take k).map Value.string)[j]? = some u → W.cell? ((⟨b, off, none⟩ : Addr).add j) = some u) := Lib.hid (fun W hW j u hu => by
      rw [List.getElem?_map] at hu
      obtain ⟨z, hz, rfl⟩ := Option.map_eq_some_iff.1 hu
      have hz2 : ss[j]? = some z := by
        rw [List.getElem?_take] at hz
        split at hz
        · exact hz
        · cases hz
      have h9 := HC.out W hW j z hz2
      rw [addr_off]; exact h9)
    have HLD : RowKit.Hid (((ss.drop k).map Value.string).length = (n - k) * 1) := Lib.hid (by simp; omega)
    have HN2 : RowKit.Hid (∀ W, Kept w W → ∀ j u, ((ss.drop k).map Value.string)[j]? = some u → W.cell? ((⟨b, off + k, none⟩ : Addr).add j) = some u) := Lib.hid (fun W hW j u hu => by
      rw [List.getElem?_map] at hu
      obtain ⟨z, hz, rfl⟩ := Option.map_eq_some_iff.1 hu
      rw [List.getElem?_drop] at hz
      have := HC.out W hW (k + j) z hz
      rw [← Nat.add_assoc] at this
      rw [addr_off]; exact this)
    have hkc : k ≤ c := by omega
    have hck : ¬ c = k := by omega
    go_upto_region 6 with (fail)
    go_region_law (first
        | (refine step_append_lies _ (by rfl) (.tmp 33) (.tmp 36) _ (by rfl) w.heap.size 9 i0 _ 1 16 Tryz.underlying52 hi0 hz0 hz1 hz2 rfl (by decide) (.slice (some ⟨w.heap.size, 0, none⟩) 0 0) 0 [] (by first | rfl | (simp; done)) (own_kept (ownS0 w.drew w.heap.size rfl) ((Kept.refl _).alloc _)) ⟨b, off, none⟩ k c ((ss.take k).map Value.string) (by first | rfl | (simp; done)) HLT.out (HN.out _ ka) (fun u hu => by obtain ⟨z, _, rfl⟩ := List.mem_map.1 hu; rfl) (by omega) (by simp only [maxLen]; omega) (by omega) (by first | (simp; done) | (simp; omega)) _ rfl ?_; intro g3 cap3 w3 hown3 hgrow3 hat3 hlt3; simp only [Nat.zero_add] at hown3; have hk3 : Kept w w3 := ka.grown hgrow3 (fun j hj => by simp [Value.ownBlock] at hj; omega); have hs3 : w3.heap[w.heap.size + 1]? = some (.cells #[.string s] 9 (0, 0)) := (hgrow3.block _ (by first | (simp; done) | (simp; omega)) (by first | (simp [Value.ownBlock]; done) | (simp [Value.ownBlock]; omega))).trans sa)
        | (refine step_append_lies _ (by rfl) (.tmp 33) (.tmp 36) _ (by rfl) w.heap.size 9 i0 _ 1 16 Tryz.underlying52 hi0 hz0 hz1 hz2 rfl (by decide) (.slice (some ⟨w.heap.size + 1, 0, none⟩) 0 0) 0 [] (by first | rfl | (simp; done)) (own_base (ownS0 (w.drew.alloc (.cells #[.string s] 9)) (w.heap.size + 1) (by simp)) (by omega)) ⟨b, off, none⟩ k c ((ss.take k).map Value.string) (by first | rfl | (simp; done)) HLT.out (HN.out _ kb) (fun u hu => by obtain ⟨z, _, rfl⟩ := List.mem_map.1 hu; rfl) (by omega) (by simp only [maxLen]; omega) (by omega) (by first | (simp; done) | (simp; omega)) _ rfl ?_; intro g3 cap3 w3 hown3 hgrow3 hat3 hlt3; simp only [Nat.zero_add] at hown3; have hk3 : Kept w w3 := kb.grown hgrow3 (fun j hj => by simp [Value.ownBlock] at hj; omega); have hs3 : w3.heap[w.heap.size]? = some (.cells #[.string s] 9 (0, 0)) := (hgrow3.block _ (by first | (simp; done) | (simp; omega)) (by first | (simp [Value.ownBlock]; done) | (simp [Value.ownBlock]; omega))).trans sb)
        | (refine step_append_lies _ (by rfl) (.tmp 33) (.tmp 36) _ (by rfl) w.heap.size 9 i0 _ 1 16 Tryz.underlying52 hi0 hz0 hz1 hz2 rfl (by decide) (.slice (some ⟨w.heap.size, 0, none⟩) 0 0) 0 [] (by first | rfl | (simp; done)) (ownS0 w.drew w.heap.size rfl) ⟨b, off, none⟩ k c ((ss.take k).map Value.string) (by first | rfl | (simp; done)) HLT.out (HN.out _ kc) (fun u hu => by obtain ⟨z, _, rfl⟩ := List.mem_map.1 hu; rfl) (by omega) (by simp only [maxLen]; omega) (by omega) (by first | (simp; done) | (simp; omega)) _ rfl ?_; intro g3 cap3 w3 hown3 hgrow3 hat3 hlt3; simp only [Nat.zero_add] at hown3; have hk3 : Kept w w3 := kc.grown hgrow3 (fun j hj => by simp [Value.ownBlock] at hj; omega))
        | (refine step_append_lies _ (by rfl) (.tmp 37) (.tmp 39) _ (by rfl) w.heap.size 9 i0 _ 1 16 Tryz.underlying52 hi0 hz0 hz1 hz2 rfl (by decide) (.slice (some ⟨g3, 0, none⟩) k cap3) k ([] ++ ((ss.take k).map Value.string)) (by first | rfl | (simp; done)) (hown3) ⟨w.heap.size + 1, 0, none⟩ 1 1 [.string s] (by first | rfl | (simp; done)) rfl (World.news_of_block (cs := #[.string s]) hs3) (fun u hu => by simp at hu; subst hu; rfl) (by omega) (by simp only [maxLen]; omega) (by omega) (hk3.size) _ rfl ?_; intro g4 cap4 w4 hown4 hgrow4 hat4 hlt4; have hk4 : Kept w w4 := (hk3).grown hgrow4 (fun j hj => own_row hown3 j hj))
        | (refine step_append_lies _ (by rfl) (.tmp 37) (.tmp 39) _ (by rfl) w.heap.size 9 i0 _ 1 16 Tryz.underlying52 hi0 hz0 hz1 hz2 rfl (by decide) (.slice (some ⟨g3, 0, none⟩) k cap3) k ([] ++ ((ss.take k).map Value.string)) (by first | rfl | (simp; done)) (hown3) ⟨w.heap.size, 0, none⟩ 1 1 [.string s] (by first | rfl | (simp; done)) rfl (World.news_of_block (cs := #[.string s]) hs3) (fun u hu => by simp at hu; subst hu; rfl) (by omega) (by simp only [maxLen]; omega) (by omega) (hk3.size) _ rfl ?_; intro g4 cap4 w4 hown4 hgrow4 hat4 hlt4; have hk4 : Kept w w4 := (hk3).grown hgrow4 (fun j hj => own_row hown3 j hj))
        | (refine step_append_lies _ (by rfl) (.tmp 37) (.tmp 39) _ (by rfl) w.heap.size 9 i0 _ 1 16 Tryz.underlying52 hi0 hz0 hz1 hz2 rfl (by decide) (.slice (some ⟨g3, 0, none⟩) k cap3) k ([] ++ ((ss.take k).map Value.string)) (by first | rfl | (simp; done)) (own_kept hown3 ((Kept.refl _).alloc _)) ⟨w3.heap.size, 0, none⟩ 1 1 [.string s] (by first | rfl | (simp; done)) rfl (World.news_of_block (cs := #[.string s]) (heap_alloc_new w3 _)) (fun u hu => by simp at hu; subst hu; rfl) (by omega) (by simp only [maxLen]; omega) (by omega) ((hk3.alloc _).size) _ rfl ?_; intro g4 cap4 w4 hown4 hgrow4 hat4 hlt4; have hk4 : Kept w w4 := (hk3.alloc _).grown hgrow4 (fun j hj => own_row hown3 j hj))
        | (refine step_append_lies _ (by rfl) (.tmp 40) (.tmp 43) _ (by rfl) w.heap.size 9 i0 _ 1 16 Tryz.underlying52 hi0 hz0 hz1 hz2 rfl (by decide) (.slice (some ⟨g4, 0, none⟩) (k + 1) cap4) (k + 1) ([] ++ ((ss.take k).map Value.string) ++ [.string s]) (by first | rfl | (simp; done)) (hown4) ⟨b, off + k, none⟩ (n - k) (c - k) ((ss.drop k).map Value.string) (by first | rfl | (simp; done)) HLD.out (HN2.out _ hk4) (fun u hu => by obtain ⟨z, _, rfl⟩ := List.mem_map.1 hu; rfl) (by omega) (by simp only [maxLen]; omega) (by omega) (hk4.size) _ rfl ?_; intro g5 cap5 w5 hown5 hgrow5 hat5 hlt5; have hk5 : Kept w w5 := hk4.grown hgrow5 (fun j hj => own_row hown4 j hj))
        | fail)
    all_goals
      have HO5 := Lib.hid hown5
      have HK5 := Lib.hid hk5
      clear hown5 hk5
      go_wp2
      all_goals
        go_ret
        have h5 := HO5.out
        rw [show (([] ++ ((ss.take k).map Value.string) ++ [.string s]) ++ ((ss.drop k).map Value.string)) = (ss.take k ++ [s] ++ ss.drop k).map Value.string by simp] at h5
        obtain ⟨A7, c7, hv7, hs7⟩ := own_outS h5
        cases hv7
        exact ⟨_, _, _, rfl, (by first | exact hs7 | simpa using hs7), HK5.out⟩
set_option maxRecDepth 100000 in
set_option maxHeartbeats 8000000 in
theorem insert_end (b off n c : Nat) (ss : List ByteArray) (s : ByteArray) (w : World) (hT : StA_s w (some ⟨b, off, none⟩) n c ss) (hlen : n ≤ 1000) (k : Nat) (hkk : 0 < k) (hk : k = n) (hpre : ∀ j z, ss[j]? = some z → j < k → Op.bytesLess z.toList s.toList = true)  :
    Calls Tryz.prog 120 #[.slice (some ⟨b, off, none⟩) n c, .string s] w (WordsRes w (ss.take k ++ [s] ++ ss.drop k)) := by
  obtain ⟨i0, hi0, hz0, hz1, hz2⟩ := info_parts info9
  have HT := Lib.hid hT
  have hnc := hT.2.1
  have hcm := hT.2.2.1
  have hsl := hT.1
  have HPRE := Lib.hid hpre
  clear hT hpre
  have HC : RowKit.Hid (∀ W, Kept w W → ∀ j z, ss[j]? = some z → W.cell? ⟨b, off + j, none⟩ = some (.string z)) := Lib.hid (fun W hW j z hz => by
    obtain ⟨b', o', e', h'⟩ := HT.out.2.2.2 j z hz
    cases e'
    exact (hW.cells _ _ (cell_lt h')).trans h')
  subst hk
  go_enter Tryz.func120, Tryz.ntmps120
  go_wp2_with fail
  go_loopw [5] (fun i wr => ∃ j : Nat, j ≤ k ∧ i = .int .i64 j ∧ wr = w) (fun i _ => k - (intOf i).toNat)
  case atStart => exact ⟨0, by omega, by first | rfl | go_num, rfl⟩
  case round =>
    obtain ⟨j, hj, rfl, rfl⟩ := hrel
    obtain ⟨w, rfl⟩ : ∃ w, w = wr := ⟨_, rfl⟩
    by_cases hjk : j < k
    · have hjl : j < ss.length := by omega
      obtain ⟨z, hz⟩ : ∃ z, ss[j]? = some z := ⟨ss[j]'hjl, List.getElem?_eq_getElem hjl⟩
      have q0 := HC.out w (Kept.refl _) j z hz
      have hb := HPRE.out j z hz hjk
      have i0' : (0 : Int) ≤ (j : Int) := by omega
      have i1 : (j : Int) < (k : Int) := by omega
      clear hz
      go_wp2
      go_roundw
      case rel => exact ⟨j + 1, by omega, by go_num, by first | rfl | trivial⟩
      case measure => simp [intOf]; omega
    obtain rfl : j = k := by omega
    have k0 : (0 : Int) ≤ (j : Int) := by omega
    have k1 : (j : Int) ≤ (j : Int) := by omega
    obtain ⟨k, rfl⟩ : ∃ k, k = j := ⟨_, rfl⟩
    have ka : Kept w ((w.drew.alloc (.cells #[] 9)).alloc (.cells #[.string s] 9)) := (((Kept.refl w).drew).alloc _).alloc _
    have kb : Kept w ((w.drew.alloc (.cells #[.string s] 9)).alloc (.cells #[] 9)) := (((Kept.refl w).drew).alloc _).alloc _
    have kc : Kept w (w.drew.alloc (.cells #[] 9)) := ((Kept.refl w).drew).alloc _
    have sa : ((w.drew.alloc (.cells #[] 9)).alloc (.cells #[.string s] 9)).heap[w.heap.size + 1]? = some (.cells #[.string s] 9 (0, 0)) := by
      have h := heap_alloc_new (w.drew.alloc (.cells #[] 9)) (.cells #[.string s] 9)
      rwa [show (w.drew.alloc (.cells #[] 9)).heap.size = w.heap.size + 1 by simp] at h
    have sb : ((w.drew.alloc (.cells #[.string s] 9)).alloc (.cells #[] 9)).heap[w.heap.size]? = some (.cells #[.string s] 9 (0, 0)) := (((Kept.refl (w.drew.alloc (.cells #[.string s] 9))).alloc (.cells #[] 9)).block w.heap.size (by simp)).trans (heap_alloc_new w.drew (.cells #[.string s] 9))
    have HLT : RowKit.Hid (((ss.take k).map Value.string).length = k * 1) := Lib.hid (by simp; omega)
    have HN : RowKit.Hid (∀ W, Kept w W → ∀ j u, ((ss.take k).map Value.string)[j]? = some u → W.cell? ((⟨b, off, none⟩ : Addr).add j) = some u) := Lib.hid (fun W hW j u hu => by
      rw [List.getElem?_map] at hu
      obtain ⟨z, hz, rfl⟩ := Option.map_eq_some_iff.1 hu
      have hz2 : ss[j]? = some z := by
        rw [List.getElem?_take] at hz
        split at hz
        · exact hz
        · cases hz
      have h9 := HC.out W hW j z hz2
      rw [addr_off]; exact h9)
    have hkc : k ≤ c := by omega
    skip
    go_upto_region 6 with (fail)
    go_region_law (first
        | (refine step_append_lies _ (by rfl) (.tmp 33) (.tmp 36) _ (by rfl) w.heap.size 9 i0 _ 1 16 Tryz.underlying52 hi0 hz0 hz1 hz2 rfl (by decide) (.slice (some ⟨w.heap.size, 0, none⟩) 0 0) 0 [] (by first | rfl | (simp; done)) (own_kept (ownS0 w.drew w.heap.size rfl) ((Kept.refl _).alloc _)) ⟨b, off, none⟩ k c ((ss.take k).map Value.string) (by first | rfl | (simp; done)) HLT.out (HN.out _ ka) (fun u hu => by obtain ⟨z, _, rfl⟩ := List.mem_map.1 hu; rfl) (by omega) (by simp only [maxLen]; omega) (by omega) (by first | (simp; done) | (simp; omega)) _ rfl ?_; intro g3 cap3 w3 hown3 hgrow3 hat3 hlt3; simp only [Nat.zero_add] at hown3; have hk3 : Kept w w3 := ka.grown hgrow3 (fun j hj => by simp [Value.ownBlock] at hj; omega); have hs3 : w3.heap[w.heap.size + 1]? = some (.cells #[.string s] 9 (0, 0)) := (hgrow3.block _ (by first | (simp; done) | (simp; omega)) (by first | (simp [Value.ownBlock]; done) | (simp [Value.ownBlock]; omega))).trans sa)
        | (refine step_append_lies _ (by rfl) (.tmp 33) (.tmp 36) _ (by rfl) w.heap.size 9 i0 _ 1 16 Tryz.underlying52 hi0 hz0 hz1 hz2 rfl (by decide) (.slice (some ⟨w.heap.size + 1, 0, none⟩) 0 0) 0 [] (by first | rfl | (simp; done)) (own_base (ownS0 (w.drew.alloc (.cells #[.string s] 9)) (w.heap.size + 1) (by simp)) (by omega)) ⟨b, off, none⟩ k c ((ss.take k).map Value.string) (by first | rfl | (simp; done)) HLT.out (HN.out _ kb) (fun u hu => by obtain ⟨z, _, rfl⟩ := List.mem_map.1 hu; rfl) (by omega) (by simp only [maxLen]; omega) (by omega) (by first | (simp; done) | (simp; omega)) _ rfl ?_; intro g3 cap3 w3 hown3 hgrow3 hat3 hlt3; simp only [Nat.zero_add] at hown3; have hk3 : Kept w w3 := kb.grown hgrow3 (fun j hj => by simp [Value.ownBlock] at hj; omega); have hs3 : w3.heap[w.heap.size]? = some (.cells #[.string s] 9 (0, 0)) := (hgrow3.block _ (by first | (simp; done) | (simp; omega)) (by first | (simp [Value.ownBlock]; done) | (simp [Value.ownBlock]; omega))).trans sb)
        | (refine step_append_lies _ (by rfl) (.tmp 33) (.tmp 36) _ (by rfl) w.heap.size 9 i0 _ 1 16 Tryz.underlying52 hi0 hz0 hz1 hz2 rfl (by decide) (.slice (some ⟨w.heap.size, 0, none⟩) 0 0) 0 [] (by first | rfl | (simp; done)) (ownS0 w.drew w.heap.size rfl) ⟨b, off, none⟩ k c ((ss.take k).map Value.string) (by first | rfl | (simp; done)) HLT.out (HN.out _ kc) (fun u hu => by obtain ⟨z, _, rfl⟩ := List.mem_map.1 hu; rfl) (by omega) (by simp only [maxLen]; omega) (by omega) (by first | (simp; done) | (simp; omega)) _ rfl ?_; intro g3 cap3 w3 hown3 hgrow3 hat3 hlt3; simp only [Nat.zero_add] at hown3; have hk3 : Kept w w3 := kc.grown hgrow3 (fun j hj => by simp [Value.ownBlock] at hj; omega))
        | (refine step_append_lies _ (by rfl) (.tmp 37) (.tmp 39) _ (by rfl) w.heap.size 9 i0 _ 1 16 Tryz.underlying52 hi0 hz0 hz1 hz2 rfl (by decide) (.slice (some ⟨g3, 0, none⟩) k cap3) k ([] ++ ((ss.take k).map Value.string)) (by first | rfl | (simp; done)) (hown3) ⟨w.heap.size + 1, 0, none⟩ 1 1 [.string s] (by first | rfl | (simp; done)) rfl (World.news_of_block (cs := #[.string s]) hs3) (fun u hu => by simp at hu; subst hu; rfl) (by omega) (by simp only [maxLen]; omega) (by omega) (hk3.size) _ rfl ?_; intro g4 cap4 w4 hown4 hgrow4 hat4 hlt4; have hk4 : Kept w w4 := (hk3).grown hgrow4 (fun j hj => own_row hown3 j hj))
        | (refine step_append_lies _ (by rfl) (.tmp 37) (.tmp 39) _ (by rfl) w.heap.size 9 i0 _ 1 16 Tryz.underlying52 hi0 hz0 hz1 hz2 rfl (by decide) (.slice (some ⟨g3, 0, none⟩) k cap3) k ([] ++ ((ss.take k).map Value.string)) (by first | rfl | (simp; done)) (hown3) ⟨w.heap.size, 0, none⟩ 1 1 [.string s] (by first | rfl | (simp; done)) rfl (World.news_of_block (cs := #[.string s]) hs3) (fun u hu => by simp at hu; subst hu; rfl) (by omega) (by simp only [maxLen]; omega) (by omega) (hk3.size) _ rfl ?_; intro g4 cap4 w4 hown4 hgrow4 hat4 hlt4; have hk4 : Kept w w4 := (hk3).grown hgrow4 (fun j hj => own_row hown3 j hj))
        | (refine step_append_lies _ (by rfl) (.tmp 37) (.tmp 39) _ (by rfl) w.heap.size 9 i0 _ 1 16 Tryz.underlying52 hi0 hz0 hz1 hz2 rfl (by decide) (.slice (some ⟨g3, 0, none⟩) k cap3) k ([] ++ ((ss.take k).map Value.string)) (by first | rfl | (simp; done)) (own_kept hown3 ((Kept.refl _).alloc _)) ⟨w3.heap.size, 0, none⟩ 1 1 [.string s] (by first | rfl | (simp; done)) rfl (World.news_of_block (cs := #[.string s]) (heap_alloc_new w3 _)) (fun u hu => by simp at hu; subst hu; rfl) (by omega) (by simp only [maxLen]; omega) (by omega) ((hk3.alloc _).size) _ rfl ?_; intro g4 cap4 w4 hown4 hgrow4 hat4 hlt4; have hk4 : Kept w w4 := (hk3.alloc _).grown hgrow4 (fun j hj => own_row hown3 j hj))
        | (refine step_append_zero _ (by rfl) (.tmp 40) (.tmp 43) _ (by rfl) w.heap.size 9 i0 1 Tryz.underlying52 hi0 (.slice (some ⟨g4, 0, none⟩) (k + 1) cap4) (k + 1) ([] ++ ((ss.take k).map Value.string) ++ [.string s]) (by first | rfl | (simp; done)) hown4 _ _ (by first | rfl | (simp; done)) ?_)
        | fail)
    all_goals
      have HO5 := Lib.hid hown4
      have HK5 := Lib.hid hk4
      clear hown4 hk4
      go_wp2
      all_goals
        go_ret
        have h5 := HO5.out
        rw [show ([] ++ ((ss.take k).map Value.string) ++ [.string s]) = (ss.take k ++ [s] ++ ss.drop k).map Value.string by rw [show ss.drop k = [] from List.drop_eq_nil_of_le (by omega)]; simp] at h5
        obtain ⟨A7, c7, hv7, hs7⟩ := own_outS h5
        cases hv7
        exact ⟨_, _, _, rfl, (by first | exact hs7 | simpa using hs7), HK5.out⟩
set_option maxRecDepth 100000 in
set_option maxHeartbeats 8000000 in
theorem insert_front (b off n c : Nat) (ss : List ByteArray) (s : ByteArray) (w : World) (hT : StA_s w (some ⟨b, off, none⟩) n c ss) (hlen : n ≤ 1000) (k : Nat) (hkk : k = 0) (hk : k < n) (hpre : ∀ j z, ss[j]? = some z → j < k → Op.bytesLess z.toList s.toList = true) (hst : ∀ z, ss[k]? = some z → Op.bytesLess z.toList s.toList = false ∧ (z.toList == s.toList) = false) :
    Calls Tryz.prog 120 #[.slice (some ⟨b, off, none⟩) n c, .string s] w (WordsRes w (ss.take k ++ [s] ++ ss.drop k)) := by
  obtain ⟨i0, hi0, hz0, hz1, hz2⟩ := info_parts info9
  have HT := Lib.hid hT
  have hnc := hT.2.1
  have hcm := hT.2.2.1
  have hsl := hT.1
  have HPRE := Lib.hid hpre
  have HST := Lib.hid hst
  clear hst
  clear hT hpre
  have HC : RowKit.Hid (∀ W, Kept w W → ∀ j z, ss[j]? = some z → W.cell? ⟨b, off + j, none⟩ = some (.string z)) := Lib.hid (fun W hW j z hz => by
    obtain ⟨b', o', e', h'⟩ := HT.out.2.2.2 j z hz
    cases e'
    exact (hW.cells _ _ (cell_lt h')).trans h')
  subst hkk
  simp only [List.take_zero, List.nil_append, List.drop_zero]
  go_enter Tryz.func120, Tryz.ntmps120
  go_wp2_with fail
  go_loopw [5] (fun i wr => ∃ j : Nat, j ≤ 0 ∧ i = .int .i64 j ∧ wr = w) (fun i _ => 0 - (intOf i).toNat)
  case atStart => exact ⟨0, by omega, by first | rfl | go_num, rfl⟩
  case round =>
    obtain ⟨j, hj, rfl, rfl⟩ := hrel
    obtain ⟨w, rfl⟩ : ∃ w, w = wr := ⟨_, rfl⟩
    obtain rfl : j = 0 := by omega
    have hkl : 0 < ss.length := by omega
    obtain ⟨y, hy⟩ : ∃ y, ss[0]? = some y := ⟨ss[0]'hkl, List.getElem?_eq_getElem hkl⟩
    have q9 := HC.out w (Kept.refl _) 0 y hy
    simp only [Nat.add_zero] at q9
    obtain ⟨hb1, hb2⟩ := HST.out y hy
    have y0 : (0 : Int) ≤ ((0 : Nat) : Int) := by omega
    have y1 : ((0 : Nat) : Int) < (n : Int) := by omega
    clear hy
    have ka : Kept w ((w.drew.alloc (.cells #[] 9)).alloc (.cells #[.string s] 9)) := (((Kept.refl w).drew).alloc _).alloc _
    have kb : Kept w ((w.drew.alloc (.cells #[.string s] 9)).alloc (.cells #[] 9)) := (((Kept.refl w).drew).alloc _).alloc _
    have kc : Kept w (w.drew.alloc (.cells #[] 9)) := ((Kept.refl w).drew).alloc _
    have HLD : RowKit.Hid ((ss.map Value.string).length = n * 1) := Lib.hid (by simp; omega)
    have HN2 : RowKit.Hid (∀ W, Kept w W → ∀ j u, (ss.map Value.string)[j]? = some u → W.cell? ((⟨b, off, none⟩ : Addr).add j) = some u) := Lib.hid (fun W hW j u hu => by
      rw [List.getElem?_map] at hu
      obtain ⟨z, hz, rfl⟩ := Option.map_eq_some_iff.1 hu
      
      have := HC.out W hW j z hz
      
      rw [addr_off]; exact this)
    have hkc : 0 ≤ c := by omega
    have hck : ¬ c = 0 := by omega
    go_upto_region 6 with (fail)
    go_region_law (first
        | (refine step_append_zero _ (by rfl) (.tmp 33) (.tmp 36) _ (by rfl) w.heap.size 9 i0 1 Tryz.underlying52 hi0 (.slice (some ⟨w.heap.size, 0, none⟩) 0 0) 0 [] (by first | rfl | (simp; done)) (ownS0 w.drew w.heap.size rfl) (some ⟨b, off, none⟩) c (by first | rfl | (simp; done)) ?_)
        | (refine step_append_zero _ (by rfl) (.tmp 33) (.tmp 36) _ (by rfl) w.heap.size 9 i0 1 Tryz.underlying52 hi0 (.slice (some ⟨w.heap.size, 0, none⟩) 0 0) 0 [] (by first | rfl | (simp; done)) (own_kept (ownS0 w.drew w.heap.size rfl) ((Kept.refl _).alloc _)) (some ⟨b, off, none⟩) c (by first | rfl | (simp; done)) ?_)
        | (refine step_append_zero _ (by rfl) (.tmp 33) (.tmp 36) _ (by rfl) w.heap.size 9 i0 1 Tryz.underlying52 hi0 (.slice (some ⟨w.heap.size + 1, 0, none⟩) 0 0) 0 [] (by first | rfl | (simp; done)) (own_base (ownS0 (w.drew.alloc (.cells #[.string s] 9)) (w.heap.size + 1) (by simp)) (by omega)) (some ⟨b, off, none⟩) c (by first | rfl | (simp; done)) ?_)
        | (refine step_append_lies _ (by rfl) (.tmp 37) (.tmp 39) _ (by rfl) w.heap.size 9 i0 _ 1 16 Tryz.underlying52 hi0 hz0 hz1 hz2 rfl (by decide) (.slice (some ⟨w.heap.size, 0, none⟩) 0 0) 0 [] (by rfl) (own_kept (ownS0 w.drew w.heap.size rfl) ((Kept.refl _).alloc _)) ⟨w.heap.size + 1, 0, none⟩ 1 1 [.string s] (by rfl) (by rfl) (nbS2 s w) (fun u hu => by simp at hu; subst hu; rfl) (by omega) (by simp only [maxLen]; omega) (by omega) (by first | (simp; done) | (simp; omega)) _ rfl ?_; intro g4 cap4 w4 hown4 hgrow4 hat4 hlt4; have hk4 : Kept w w4 := ka.grown hgrow4 (fun k hk => by simp [Value.ownBlock] at hk; all_goals omega))
        | (refine step_append_lies _ (by rfl) (.tmp 37) (.tmp 39) _ (by rfl) w.heap.size 9 i0 _ 1 16 Tryz.underlying52 hi0 hz0 hz1 hz2 rfl (by decide) (.slice (some ⟨w.heap.size + 1, 0, none⟩) 0 0) 0 [] (by rfl) (own_base (ownS0 (w.drew.alloc (.cells #[.string s] 9)) (w.heap.size + 1) (by simp)) (by omega)) ⟨w.heap.size, 0, none⟩ 1 1 [.string s] (by rfl) (by rfl) (nbS3 s w) (fun u hu => by simp at hu; subst hu; rfl) (by omega) (by simp only [maxLen]; omega) (by omega) (by first | (simp; done) | (simp; omega)) _ rfl ?_; intro g4 cap4 w4 hown4 hgrow4 hat4 hlt4; have hk4 : Kept w w4 := kb.grown hgrow4 (fun k hk => by simp [Value.ownBlock] at hk; all_goals omega))
        | (refine step_append_lies _ (by rfl) (.tmp 40) (.tmp 43) _ (by rfl) w.heap.size 9 i0 _ 1 16 Tryz.underlying52 hi0 hz0 hz1 hz2 rfl (by decide) (.slice (some ⟨g4, 0, none⟩) (0 + 1) cap4) (0 + 1) ([] ++ [.string s]) (by first | rfl | (simp; done)) (hown4) ⟨b, off, none⟩ n c (ss.map Value.string) (by first | rfl | (simp; done)) HLD.out (HN2.out _ hk4) (fun u hu => by obtain ⟨z, _, rfl⟩ := List.mem_map.1 hu; rfl) (by omega) (by simp only [maxLen]; omega) (by omega) (hk4.size) _ rfl ?_; intro g5 cap5 w5 hown5 hgrow5 hat5 hlt5; have hk5 : Kept w w5 := hk4.grown hgrow5 (fun j hj => own_row hown4 j hj))
        | fail)
    all_goals
      have HO5 := Lib.hid hown5
      have HK5 := Lib.hid hk5
      clear hown5 hk5
      go_wp2
      all_goals
        go_ret
        have h5 := HO5.out
        rw [show (([] ++ [.string s]) ++ (ss.map Value.string)) = ([s] ++ ss).map Value.string by simp] at h5
        obtain ⟨A7, c7, hv7, hs7⟩ := own_outS h5
        cases hv7
        exact ⟨_, _, _, rfl, (by first | exact hs7 | simpa using hs7), HK5.out⟩
end Go.Proofs.YtcjpecdnenemaaaGreatDoor

namespace Go.Proofs.YtcjpecdnenemaaaGreatDoor
set_option linter.all false
open Go.RowKit Go.Shelf

set_option maxRecDepth 100000 in
set_option maxHeartbeats 8000000 in
theorem insert_hit (b off n c : Nat) (ss : List ByteArray) (s : ByteArray) (w : World) (hT : StA_s w (some ⟨b, off, none⟩) n c ss) (k : Nat) (hk : k < n) (hpre : ∀ j z, ss[j]? = some z → j < k → Op.bytesLess z.toList s.toList = true) (hst : ∀ z, ss[k]? = some z → Op.bytesLess z.toList s.toList = false ∧ (z.toList == s.toList) = true) :
    Calls Tryz.prog 120 #[.slice (some ⟨b, off, none⟩) n c, .string s] w (WordsRes w ss) := by
  have HT := Lib.hid hT
  have hnc := hT.2.1
  have hcm := hT.2.2.1
  have hsl := hT.1
  have HPRE := Lib.hid hpre
  have HST := Lib.hid hst
  clear hst
  clear hT hpre
  have HC : RowKit.Hid (∀ W, Kept w W → ∀ j z, ss[j]? = some z → W.cell? ⟨b, off + j, none⟩ = some (.string z)) := Lib.hid (fun W hW j z hz => by
    obtain ⟨b', o', e', h'⟩ := HT.out.2.2.2 j z hz
    cases e'
    exact (hW.cells _ _ (cell_lt h')).trans h')
  go_enter Tryz.func120, Tryz.ntmps120
  go_wp2_with fail
  go_loopw [5] (fun i wr => ∃ j : Nat, j ≤ k ∧ i = .int .i64 j ∧ wr = w) (fun i _ => k - (intOf i).toNat)
  case atStart => exact ⟨0, by omega, by first | rfl | go_num, rfl⟩
  case round =>
    obtain ⟨j, hj, rfl, rfl⟩ := hrel
    obtain ⟨w, rfl⟩ : ∃ w, w = wr := ⟨_, rfl⟩
    have hjl : j < ss.length := by omega
    obtain ⟨z, hz⟩ : ∃ z, ss[j]? = some z := ⟨ss[j]'hjl, List.getElem?_eq_getElem hjl⟩
    have q0 := HC.out w (Kept.refl _) j z hz
    have i0' : (0 : Int) ≤ (j : Int) := by omega
    have i1 : (j : Int) < (n : Int) := by omega
    by_cases hjk : j < k
    · have hb := HPRE.out j z hz hjk
      clear hz
      go_wp2
      go_roundw
      case rel => exact ⟨j + 1, by omega, by go_num, by first | rfl | trivial⟩
      case measure => simp [intOf]; omega
    · obtain rfl : j = k := by omega
      obtain ⟨hb1, hb2⟩ := HST.out z hz
      clear hz
      go_wp2
      go_ret
      exact ⟨_, _, _, rfl, HT.out, Kept.refl _⟩
/-- a string put into a sorted list -/
def insS : List ByteArray → ByteArray → List ByteArray
  | [], s => [s]
  | a :: l, s => if Op.bytesLess a.toList s.toList = true then a :: insS l s else if (a.toList == s.toList) = true then a :: l else s :: a :: l
theorem insS_hit : ∀ (ss : List ByteArray) (s : ByteArray) (k : Nat) (y : ByteArray), (∀ j z, ss[j]? = some z → j < k → Op.bytesLess z.toList s.toList = true) → ss[k]? = some y → Op.bytesLess y.toList s.toList = false → (y.toList == s.toList) = true → insS ss s = ss
  | [], s, k, y, _, hy, _, _ => by simp at hy
  | a :: l, s, 0, y, hp, hy, h1, h2 => by
    simp at hy
    subst hy
    unfold insS
    rw [if_neg (by simp [h1]), if_pos h2]
  | a :: l, s, k + 1, y, hp, hy, h1, h2 => by
    have ha := hp 0 a rfl (by omega)
    unfold insS
    rw [if_pos ha, insS_hit l s k y (fun j z hz hj => hp (j + 1) z (by simpa using hz) (by omega)) (by simpa using hy) h1 h2]
theorem insS_mid : ∀ (ss : List ByteArray) (s : ByteArray) (k : Nat) (y : ByteArray), (∀ j z, ss[j]? = some z → j < k → Op.bytesLess z.toList s.toList = true) → ss[k]? = some y → Op.bytesLess y.toList s.toList = false → (y.toList == s.toList) = false → insS ss s = ss.take k ++ [s] ++ ss.drop k
  | [], s, k, y, _, hy, _, _ => by simp at hy
  | a :: l, s, 0, y, hp, hy, h1, h2 => by
    simp at hy
    subst hy
    unfold insS
    rw [if_neg (by simp [h1]), if_neg (by simp [h2])]
    rfl
  | a :: l, s, k + 1, y, hp, hy, h1, h2 => by
    have ha := hp 0 a rfl (by omega)
    unfold insS
    rw [if_pos ha, insS_mid l s k y (fun j z hz hj => hp (j + 1) z (by simpa using hz) (by omega)) (by simpa using hy) h1 h2]
    simp
theorem insS_end : ∀ (ss : List ByteArray) (s : ByteArray), (∀ (j : Nat) (z : ByteArray), ss[j]? = some z → Op.bytesLess z.toList s.toList = true) → insS ss s = ss ++ [s]
  | [], s, _ => rfl
  | a :: l, s, hp => by
    have ha := hp 0 a rfl
    unfold insS
    rw [if_pos ha, insS_end l s (fun j (z : ByteArray) hz => hp (j + 1) z (by simpa using hz))]
    rfl
theorem insS_len : ∀ (ss : List ByteArray) (s : ByteArray), (insS ss s).length ≤ ss.length + 1
  | [], s => by simp [insS]
  | a :: l, s => by
    have := insS_len l s
    unfold insS
    split
    · simp; omega
    · split <;> simp
theorem insS_pos (ss : List ByteArray) (s : ByteArray) : 0 < (insS ss s).length := by
  cases ss with
  | nil => simp [insS]
  | cons a l =>
    unfold insS
    split
    · simp
    · split <;> simp
/-- where the walk along a list stops -/
theorem stop_at (p : ByteArray → Bool) : ∀ (ss : List ByteArray), ∃ k, k ≤ ss.length ∧ (∀ j z, ss[j]? = some z → j < k → p z = true) ∧ (∀ z, ss[k]? = some z → p z = false)
  | [] => ⟨0, Nat.le_refl _, fun j z hz => by simp at hz, fun z hz => by simp at hz⟩
  | a :: l => by
    obtain ⟨k, h1, h2, h3⟩ := stop_at p l
    rcases ha : p a with _ | _
    · exact ⟨0, by simp, fun j z _ h => by omega, fun z hz => by simp at hz; subst hz; exact ha⟩
    · refine ⟨k + 1, by simp; omega, fun j z hz hj => ?_, fun z hz => h3 z (by simpa using hz)⟩
      match j with
      | 0 => simp at hz; subst hz; exact ha
      | j + 1 => exact h2 j z (by simpa using hz) (by omega)
theorem insert_any (A : Option Addr) (n c : Nat) (ss : List ByteArray) (s : ByteArray) (w : World) (hT : StA_s w A n c ss) (hz : n = 0 → A = none ∧ c = 0) (hlen : n ≤ 1000) :
    Calls Tryz.prog 120 #[.slice A n c, .string s] w (WordsRes w (insS ss s)) := by
  have hsl := hT.1
  by_cases h0 : n = 0
  · obtain ⟨rfl, rfl⟩ := hz h0
    subst h0
    obtain rfl : ss = [] := List.eq_nil_of_length_eq_zero hsl
    refine (insert_nil s w).mono ?_
    rintro e w' ⟨g, c, rfl, hown, hk⟩
    obtain ⟨A7, c7, hv7, hs7⟩ := own_outS (xs := [s]) hown
    cases hv7
    exact ⟨_, _, _, rfl, hs7, hk⟩
  · obtain ⟨z0, hz0⟩ : ∃ z, ss[0]? = some z := ⟨ss[0]'(by omega), List.getElem?_eq_getElem (by omega)⟩
    obtain ⟨b, off, rfl, _⟩ := hT.2.2.2 0 z0 hz0
    obtain ⟨k, h1, h2, h3⟩ := stop_at (fun z => Op.bytesLess z.toList s.toList) ss
    rcases Nat.lt_or_ge k ss.length with hk | hk
    · obtain ⟨y, hy⟩ : ∃ y, ss[k]? = some y := ⟨ss[k]'hk, List.getElem?_eq_getElem hk⟩
      have hl := h3 y hy
      rcases he : (y.toList == s.toList) with _ | _
      · rw [insS_mid ss s k y h2 hy hl he]
        rcases Nat.eq_zero_or_pos k with rfl | hk0
        · exact insert_front b off n c ss s w hT hlen 0 rfl (by omega) h2 (fun z hz' => by rw [hy] at hz'; cases hz'; exact ⟨hl, he⟩)
        · exact insert_mid b off n c ss s w hT hlen k hk0 (by omega) h2 (fun z hz' => by rw [hy] at hz'; cases hz'; exact ⟨hl, he⟩)
      · rw [insS_hit ss s k y h2 hy hl he]
        exact insert_hit b off n c ss s w hT k (by omega) h2 (fun z hz' => by rw [hy] at hz'; cases hz'; exact ⟨hl, he⟩)
    · have hkn : k = n := by omega
      rw [insS_end ss s (fun j z hz' => h2 j z hz' (by have := (List.getElem?_eq_some_iff.1 hz').1; omega))]
      have := insert_end b off n c ss s w hT hlen k (by omega) hkn h2
      rw [List.take_of_length_le (by omega), List.drop_eq_nil_of_le (by omega), List.append_nil] at this
      exact this
/-- what the reference's Sorts has after some records -/
def rstep (xs : List Eqv) (day known : Int) (acc : List ByteArray) (x : Eqv) : List ByteArray := if x.off = 0 ∧ (inForceS xs x.sort day known).isSome = true then insS acc x.sort else acc
def raccS (xs : List Eqv) (day known : Int) (k : Nat) : List ByteArray := (xs.take k).foldl (rstep xs day known) []
def rsortsS (xs : List Eqv) (day known : Int) : List ByteArray := if (chkS xs).2 = 0 then raccS xs day known xs.length else []
theorem racc_succ {xs : List Eqv} {day known : Int} {k : Nat} {x : Eqv} (h : xs[k]? = some x) : raccS xs day known (k + 1) = rstep xs day known (raccS xs day known k) x := by
  unfold raccS
  rw [take_snocG h, List.foldl_append]
  rfl
theorem racc_len (xs : List Eqv) (day known : Int) : ∀ k, (raccS xs day known k).length ≤ k
  | 0 => by simp [raccS]
  | k + 1 => by
    have := racc_len xs day known k
    rcases h : xs[k]? with _ | x
    · have hk : xs.length ≤ k := List.getElem?_eq_none_iff.1 h
      have e : raccS xs day known (k + 1) = raccS xs day known k := by unfold raccS; rw [List.take_of_length_le (by omega), List.take_of_length_le hk]
      rw [e]; omega
    · rw [racc_succ h]
      unfold rstep
      split
      · have := insS_len (raccS xs day known k) x.sort; omega
      · omega
set_option maxRecDepth 100000 in
set_option maxHeartbeats 4000000 in
theorem rsorts_any (A : Option Addr) (n c : Nat) (xs : List Eqv) (day known : Int) (w : World) (hT : TabA w A n c xs) (hlen : n ≤ 1000) :
    Calls Tryz.prog 52 #[.slice A n c, .int .i64 day, .int .i64 known] w (WordsRes w (rsortsS xs day known)) := by
  have HT := Lib.hid hT
  have hnc := hT.2.1
  have hcm := hT.2.2.1
  have hxn := hT.1
  obtain ⟨c0, c1, hck⟩ : ∃ p q, chkS xs = (p, q) := ⟨_, _, rfl⟩
  have HC : RowKit.Hid (Calls Tryz.prog 37 #[.slice A n c] w fun e w' => e = .returned (.tuple #[.int .i64 c0, .int .i64 c1]) ∧ Kept w w') := Lib.hid (by have := rcheck_any A n c xs w hT; rw [hck] at this; exact this)
  clear hT
  by_cases hc : c1 = 0
  · subst hc
    have HFm := Lib.hid (fun x hx => chk_form (x := x) (show (chkS xs).2 = 0 by rw [hck]) hx)
    have HS : RowKit.Hid (rsortsS xs day known = raccS xs day known n) := Lib.hid (by unfold rsortsS; rw [hck, if_pos rfl, hxn])
    clear hck
    have hz0 : ((0 : Int) != 0) = false := by decide
    go_enter Tryz.func52, Tryz.ntmps52
    go_wp2_with fail
    refine HC.out.mono ?_
    rintro e w1 ⟨rfl, hk1⟩
    have K1 := Lib.hid hk1
    clear hk1
    go_wp2_with fail
    go_loopw [9, 10] (fun v i wr => ∃ (k : Nat) (B : Option Addr) (m cc : Nat), k ≤ n ∧ i = .int .i64 k ∧ v = .slice B m cc ∧ StA_s wr B m cc (raccS xs day known k) ∧ (m = 0 → B = none ∧ cc = 0) ∧ Kept w wr) (fun _ i _ => n - (intOf i).toNat)
    case atStart => exact ⟨0, none, 0, 0, by omega, by first | rfl | go_num, rfl, ⟨rfl, by omega, by omega, fun j z hz => (by simp [raccS] at hz)⟩, fun _ => ⟨rfl, rfl⟩, K1.out⟩
    case round =>
      obtain ⟨k, B, m, cc, hk, rfl, rfl, hst, hm0, hkr⟩ := hrel
      have HST := Lib.hid hst
      have HM := Lib.hid hm0
      have HKR := Lib.hid hkr
      have hsm := hst.1
      have hrl := racc_len xs day known k
      have hmc := hst.2.1
      have hccm := hst.2.2.1
      clear hst hm0 hkr
      by_cases hlt : k < n
      · obtain ⟨b, off, hA, htab⟩ := HT.out.2.2.2.2 (by omega)
        subst hA
        have hxl : k < xs.length := by omega
        obtain ⟨x, hx⟩ : ∃ x, xs[k]? = some x := ⟨xs[k]'hxl, List.getElem?_eq_getElem hxl⟩
        have HX := Lib.hid hx
        have HTB := Lib.hid (htab k x hx)
        obtain ⟨q0, q1, q2, q3, q4, q5, q6⟩ := (htab k x hx).kept HKR.out
        have i0 : (0 : Int) ≤ (k : Int) := by omega
        have i1 : (k : Int) < (n : Int) := by omega
        have lq := cell_lt q0
        obtain ⟨r, hr⟩ : ∃ r, r = inForceS xs x.sort day known := ⟨_, rfl⟩
        have HF : RowKit.Hid (∀ W, Kept w W → Calls Tryz.prog 116 #[.slice (some ⟨b, off, none⟩) n c, .string x.sort, .int .i64 day, .int .i64 known] W fun e w' => e = .returned (forV r) ∧ Kept W w') := Lib.hid (fun W hW => by rw [hr]; exact rinForce_for (some ⟨b, off, none⟩) n c xs x.sort day known W (HT.out.kept hW) HFm.out)
        have HRS : RowKit.Hid (raccS xs day known (k + 1) = if x.off = 0 ∧ r.isSome = true then insS (raccS xs day known k) x.sort else raccS xs day known k) := Lib.hid (by rw [racc_succ hx, hr]; rfl)
        obtain ⟨⟨i7, f7, k7, s7, n7, d7, o7⟩, hy⟩ : ∃ y, y = r.getD zeroE := ⟨_, rfl⟩
        obtain ⟨is, his⟩ : ∃ is, is = r.isSome := ⟨_, rfl⟩
        have HF2 : RowKit.Hid (∀ W, Kept w W → Calls Tryz.prog 116 #[.slice (some ⟨b, off, none⟩) n c, .string x.sort, .int .i64 day, .int .i64 known] W fun e w' => e = .returned (.tuple #[.agg #[.int .i64 i7, .int .i64 f7, .int .i64 k7, .string s7, .int .i64 n7, .int .i64 d7, .int .i64 o7], .bool is]) ∧ Kept W w') := Lib.hid (fun W hW => by
          have := HF.out W hW
          unfold forV at this
          rw [← hy, ← his] at this
          exact this)
        rw [← his] at HRS
        clear hx htab hr hy his HF
        go_wp2_with fail
        refine (HF2.out _ HKR.out).mono ?_
        rintro e w2 ⟨rfl, hk2⟩
        obtain ⟨W2, hW2⟩ : ∃ W, W = w2.alloc (.cells #[.int .i64 i7, .int .i64 f7, .int .i64 k7, .string s7, .int .i64 n7, .int .i64 d7, .int .i64 o7] 37) := ⟨_, rfl⟩
        have K2 := Lib.hid (hk2.trans (show Kept w2 W2 by rw [hW2]; exact (Kept.refl _).alloc _))
        have HW2 := Lib.hid hW2
        clear hW2 hk2 q0 q1 q2 q3 q4 q5 q6 lq
        obtain ⟨q0, q1, q2, q3, q4, q5, q6⟩ := HTB.out.kept (HKR.out.trans K2.out)
        have lq := cell_lt q0
        go_upto_region 9 with (fail)
        rw [← HW2.out]
        by_cases ho : x.off = 0
        · have hob : (x.off == 0) = true := by simp [ho]
          cases is
          · have HR2 : RowKit.Hid (raccS xs day known (k + 1) = raccS xs day known k) := Lib.hid (by rw [HRS.out, if_neg (by simp)])
            go_wp2
            go_roundw
            case rel => exact ⟨k + 1, B, m, cc, by omega, by go_num, rfl, by rw [HR2.out]; exact HST.out.kept K2.out, HM.out, HKR.out.trans K2.out⟩
            case measure => simp [intOf]; omega
          · have HR2 : RowKit.Hid (raccS xs day known (k + 1) = insS (raccS xs day known k) x.sort) := Lib.hid (by rw [HRS.out, if_pos ⟨ho, rfl⟩])
            have HI : RowKit.Hid (Calls Tryz.prog 120 #[.slice B m cc, .string x.sort] W2 (WordsRes W2 (insS (raccS xs day known k) x.sort))) := Lib.hid (insert_any B m cc _ x.sort W2 (HST.out.kept K2.out) HM.out (by omega))
            have HP := Lib.hid (insS_pos (raccS xs day known k) x.sort)
            go_wp2_with fail
            refine HI.out.mono ?_
            rintro e w3 ⟨B3, m3, c3, rfl, hs3, hk3⟩
            have HS3 := Lib.hid hs3
            have K3 := Lib.hid hk3
            clear hs3 hk3
            go_wp2
            go_roundw
            case rel => exact ⟨k + 1, B3, m3, c3, by omega, by go_num, rfl, by rw [HR2.out]; exact HS3.out, fun h => by have := HS3.out.1; have := HP.out; omega, (HKR.out.trans K2.out).trans K3.out⟩
            case measure => simp [intOf]; omega
        · have hob : (x.off == 0) = false := by simpa using ho
          have HR2 : RowKit.Hid (raccS xs day known (k + 1) = raccS xs day known k) := Lib.hid (by rw [HRS.out, if_neg (fun h => ho h.1)])
          go_wp2
          go_roundw
          case rel => exact ⟨k + 1, B, m, cc, by omega, by go_num, rfl, by rw [HR2.out]; exact HST.out.kept K2.out, HM.out, HKR.out.trans K2.out⟩
          case measure => simp [intOf]; omega
      · obtain rfl : k = n := by omega
        go_wp2
        go_ret
        exact ⟨B, m, cc, rfl, by rw [HS.out]; exact HST.out, HKR.out⟩
  · have HS : RowKit.Hid (rsortsS xs day known = []) := Lib.hid (by unfold rsortsS; rw [hck, if_neg hc])
    have hcb : (c1 != 0) = true := by simpa using hc
    clear hck
    go_enter Tryz.func52, Tryz.ntmps52
    go_wp2_with fail
    refine HC.out.mono ?_
    rintro e w1 ⟨rfl, hk1⟩
    go_wp2
    go_ret
    exact ⟨none, 0, 0, rfl, by rw [HS.out]; exact ⟨rfl, by omega, by omega, fun j z hz => (by simp at hz)⟩, hk1⟩
end Go.Proofs.YtcjpecdnenemaaaGreatDoor

namespace Go.Proofs.YtcjpecdnenemaaaGreatDoor
set_option linter.all false
open Go.RowKit Go.Shelf Go.Sort

theorem begL_len (xs : List Eqv) : ∀ (f : Nat) (d : Int), (begL xs f d).length ≤ f
  | 0, d => by simp [begL]
  | f + 1, d => by
    unfold begL
    split
    · simp
    · have := begL_len xs f (nextK xs d xs.length + 1)
      simp; omega
theorem begS_len (xs : List Eqv) : (begS xs).length ≤ xs.length + 1 := begL_len xs _ _
/-- the days that begL gives ascend -/
theorem begL_asc {xs : List Eqv} (hc : ∀ x ∈ xs, formB x = true) : ∀ (f : Nat) (d : Int), 0 ≤ d → (∀ z ∈ begL xs f d, d ≤ z ∧ z ≤ 100000) ∧ (begL xs f d).Pairwise (fun a b => a ≤ b ∧ a ≠ b)
  | 0, d, _ => by simp [begL]
  | f + 1, d, hd => by
    have hp : ∀ y ∈ xs, 0 ≤ y.frm := fun y hy => (frm_bd (hc y hy)).1
    have hn : nextK xs d xs.length = xs.foldl (nst d) (-1) := by unfold nextK; rw [List.take_length]
    obtain ⟨_, i2⟩ := next_spec d hd xs (-1) (fun h => by omega) hp
    rw [← hn] at i2
    have hle := nextK_le (d := d) hc xs.length
    unfold begL
    split
    · simp
    · rename_i h
      obtain ⟨j1, _⟩ := i2 (by omega)
      obtain ⟨k1, k2⟩ := begL_asc hc f (nextK xs d xs.length + 1) (by omega)
      refine ⟨fun z hz => ?_, List.pairwise_cons.2 ⟨fun z hz => ?_, k2⟩⟩
      · rcases List.mem_cons.1 hz with rfl | hz
        · exact ⟨j1, hle⟩
        · have := k1 z hz; omega
      · have := k1 z hz; omega
def rturnsS (xs : List Eqv) (sort : ByteArray) (known : Int) : List Int := if (chkS xs).2 = 0 then (begS xs).filter (turnB xs sort known) else []

set_option maxRecDepth 100000 in
set_option maxHeartbeats 3200000 in
theorem rturns_any (A : Option Addr) (n c : Nat) (xs : List Eqv) (sort : ByteArray) (known : Int) (w : World) (hT : TabA w A n c xs) (hlt : n ≤ 1000000) :
    Calls Tryz.prog 55 #[.slice A n c, .string sort, .int .i64 known] w (IntRes w (rturnsS xs sort known)) := by
  obtain ⟨i0, hi0, hz0, hz1, hz2⟩ := info_parts info3
  have HT := Lib.hid hT
  have hln := hT.1
  clear hT
  obtain ⟨E, hE⟩ : ∃ E, E = chkS xs := ⟨_, rfl⟩
  have HE := Lib.hid hE
  by_cases h0 : E.2 = 0
  · have h0' : (E.2 != 0) = false := by simp [h0]
    obtain ⟨zs, hzs⟩ : ∃ zs, begS xs = zs := ⟨_, rfl⟩
    have HZ := Lib.hid hzs
    have HTu := Lib.hid (show rturnsS xs sort known = zs.filter (turnB xs sort known) by unfold rturnsS; rw [← hE, if_pos h0, hzs])
    have HFm := Lib.hid (fun x hx => chk_form (x := x) (show (chkS xs).2 = 0 by rw [← hE]; exact h0) hx)
    have hle := begS_len xs
    rw [hzs, hln] at hle
    have HB := Lib.hid (show ∀ z ∈ zs, 0 ≤ z ∧ z ≤ 100000 by
      intro z hz
      rw [← hzs] at hz
      have := (begL_asc HFm.out _ 0 (by omega)).1 z hz
      omega)
    clear hzs h0 hE hln
    go_enter Tryz.func55, Tryz.ntmps55
    go_wp2_with fail
    refine (rcheck_any A n c xs _ HT.out).mono ?_
    rw [← HE.out]
    rintro e w1 ⟨rfl, hk1⟩
    go_wp2_with fail
    refine (begins_any A n c xs _ (HT.out.kept hk1) hlt HFm.out).mono ?_
    rw [HZ.out]
    rintro e w2 ⟨v, rfl, hown2, hk2⟩
    have HO2 := Lib.hid hown2
    have HK2 := Lib.hid (hk1.trans hk2)
    obtain ⟨bA, bn, bc, rfl, hform⟩ : ∃ A' n' c', v = .slice A' n' c' ∧ n' = zs.length ∧ n' ≤ c' ∧ c' ≤ 9223372036854775807 ∧ (0 < zs.length → ∃ g, A' = some ⟨g, 0, none⟩) := by
      rcases own_form hown2 with ⟨rfl, hz⟩ | ⟨g, cap, rfl, h1, h2, h3, h4⟩
      · exact ⟨none, 0, 0, rfl, hz.symm, by omega, by omega, fun h => by omega⟩
      · exact ⟨_, _, _, rfl, rfl, h1, by simpa [maxLen] using h2, fun _ => ⟨g, rfl⟩⟩
    obtain ⟨rfl, hbc, hbm, hg⟩ := hform
    have HG := Lib.hid hg
    clear hown2 hk1 hk2 hg
    go_wp2_with fail
    go_loopw [10, 11] (fun v i wr => ∃ k : Nat, k ≤ zs.length ∧ i = .int .i64 k ∧ wr.ownsRow w2.heap.size 3 1 v ((zs.take k).filter (turnB xs sort known)).length (((zs.take k).filter (turnB xs sort known)).map (Value.int .i64)) ∧ Kept w2 wr) (fun _ i _ => zs.length - (intOf i).toNat)
    case atStart => exact ⟨0, by omega, by first | rfl | go_num, by exact ⟨rfl, .inl ⟨rfl, rfl⟩⟩, Kept.refl _⟩
    case round =>
      obtain ⟨k, hk, rfl, hown, hkr2⟩ := hrel
      have hkr : Kept w wr := HK2.out.trans hkr2
      have HO := Lib.hid hown
      have HKr := Lib.hid hkr
      have HKr2 := Lib.hid hkr2
      clear hown
      by_cases hlt' : k < zs.length
      · obtain ⟨g, rfl⟩ := HG.out (by omega)
        obtain ⟨z, hz⟩ : ∃ z, zs[k]? = some z := ⟨zs[k]'hlt', List.getElem?_eq_getElem hlt'⟩
        obtain ⟨zb1, zb2⟩ := HB.out z (List.mem_of_getElem? hz)
        have HCZ : RowKit.Hid (∀ W, Kept w2 W → W.cell? ⟨g, k, none⟩ = some (.int .i64 z)) := Lib.hid (fun W hW => by
          rw [(own_kept HO2.out hW).cellAt k (by omega), List.getElem?_map, hz]; rfl)
        have hcell := HCZ.out wr hkr2
        have hll : ((zs.take k).filter (turnB xs sort known)).length ≤ k := by
          refine Nat.le_trans (List.length_filter_le _ _) ?_
          rw [List.length_take]; omega
        have Hll := Lib.hid hll
        have Hz := Lib.hid hz
        have hwr : IntKind.i64.wrap (z - 1) = z - 1 := IntWalk.i64_in _ (by omega)
        have hwr2 : wrap64 (z - 1) = z - 1 := by unfold wrap64; omega
        have ik0 : (0 : Int) ≤ (k : Int) := by omega
        have ik1 : (k : Int) < (zs.length : Int) := by omega
        obtain ⟨⟨sa, sb⟩, hs1⟩ : ∃ s1, stS (inForceS xs sort z known) = s1 := ⟨_, rfl⟩
        obtain ⟨⟨ta, tb⟩, hs2⟩ : ∃ s2, stS (inForceS xs sort (z - 1) known) = s2 := ⟨_, rfl⟩
        have H1 := Lib.hid (fun W h => rstints_any A n c xs sort z known W h HFm.out)
        have H2 := Lib.hid (fun W h => rstints_any A n c xs sort (z - 1) known W h HFm.out)
        rw [hs1] at H1
        rw [hs2] at H2
        have HTB := Lib.hid (show turnB xs sort known z = !(decide (sa = ta) && decide (sb = tb)) by unfold turnB; rw [hs1, hs2])
        clear hz hll hs1 hs2
        go_wp2_with fail
        refine (H2.out _ ((HT.out.kept HKr.out))).mono ?_
        rintro e w3 ⟨rfl, hk3⟩
        obtain ⟨W3, hW3⟩ : ∃ W, W = w3.alloc (.cells #[.int .i64 ta, .int .i64 tb] 23) := ⟨_, rfl⟩
        have RT : RowKit.Hid (RowC W3 w3.heap.size [.int .i64 ta, .int .i64 tb]) := Lib.hid (by rw [hW3]; exact RowC.new w3 [.int .i64 ta, .int .i64 tb] 23)
        have K3 := Lib.hid (hk3.trans (show Kept w3 W3 by rw [hW3]; exact (Kept.refl _).alloc _))
        have HW3 := Lib.hid hW3
        have hcell3 := HCZ.out W3 (HKr2.out.trans K3.out)
        clear hW3 hk3 hcell
        go_upto_region 10 with (fail)
        rw [← HW3.out]
        go_wp2_with fail
        refine (H1.out _ ((HT.out.kept HKr.out).kept K3.out)).mono ?_
        rintro e w4 ⟨rfl, hk4⟩
        obtain ⟨W4, hW4⟩ : ∃ W, W = w4.alloc (.cells #[.int .i64 sa, .int .i64 sb] 23) := ⟨_, rfl⟩
        have RS : RowKit.Hid (RowC W4 w4.heap.size [.int .i64 sa, .int .i64 sb]) := Lib.hid (by rw [hW4]; exact RowC.new w4 [.int .i64 sa, .int .i64 sb] 23)
        have K34 := Lib.hid (hk4.trans (show Kept w4 W4 by rw [hW4]; exact (Kept.refl _).alloc _))
        have K4 := Lib.hid (K3.out.trans K34.out)
        have HW4 := Lib.hid hW4
        have hcell4 := HCZ.out W4 (HKr2.out.trans K4.out)
        have rt := RT.out.kept K34.out
        have rs := RS.out
        have t0 := (rt 0 _ rfl).1
        have t1 := (rt 1 _ rfl).1
        have s0 := (rs 0 _ rfl).1
        have s1 := (rs 1 _ rfl).1
        have lt := cell_lt t0
        have ls := cell_lt s0
        clear hW4 hk4 hcell3 rt rs
        go_upto_region 11 with (fail)
        rw [← HW4.out]
        have HO4 := Lib.hid (own_kept HO.out K4.out)
        obtain ⟨m, hm⟩ : ∃ m, ((zs.take k).filter (turnB xs sort known)).length = m := ⟨_, rfl⟩
        rw [hm] at HO4
        have HM := Lib.hid hm
        have HN := Lib.hid (news_of (W := W4) (cs := [.int .i64 z]) (t := 3) (m := W4.heap.size) rfl)
        have H3 := Lib.hid (one1 z)
        have hmk : m ≤ k := by rw [← hm]; exact Hll.out
        clear hm
        have hsz : w2.heap.size ≤ W4.heap.size := (HKr2.out.trans K4.out).size
        have KK2 := Lib.hid (HKr2.out.trans K4.out)
        by_cases hb : sa = ta ∧ sb = tb
        · have HT1 := Lib.hid (show turnB xs sort known z = false by rw [HTB.out]; simp [hb.1, hb.2])
          obtain ⟨rfl, rfl⟩ := hb
          go_wp2
          go_roundw
          case rel =>
            refine ⟨k + 1, by omega, by go_num, ?_, KK2.out⟩
            rw [filt_no Hz.out HT1.out, HM.out]
            exact HO4.out
          case measure => simp [intOf]; omega
        · have HT1 := Lib.hid (show turnB xs sort known z = true by
            rw [HTB.out]
            by_cases b1 : sa = ta
            · have b2 : ¬ sb = tb := fun b2 => hb ⟨b1, b2⟩
              simp [b2]
            · simp [b1])
          have HRow := Lib.hid (filt_yes Hz.out HT1.out)
          have hcs : (ta = sa ∧ ¬ tb = sb) ∨ ¬ ta = sa := by
            by_cases b1 : ta = sa
            · exact .inl ⟨b1, fun b2 => hb ⟨b1.symm, b2.symm⟩⟩
            · exact .inr b1
          clear hb
          rcases hcs with ⟨b1, b2⟩ | b1
          all_goals
            go_wp2_with (at_builtin; refine wpList_append_own _ rfl (.tmp 49) (.tmp 54) 55 rfl w2.heap.size 3 i0 _ 1 8 Tryz.underlying55 hi0 hz0 hz1 hz2 rfl (by decide) _ m (((zs.take k).filter (turnB xs sort known)).map (Value.int .i64)) rfl (own_kept HO4.out ((Kept.refl _).alloc _)) ⟨W4.heap.size, 0, none⟩ 1 1 [.int .i64 z] rfl rfl HN.out H3.out (by simp only [maxLen]; omega) (by omega) (by simp; omega) ?_; intro v' w6 hown6 hg6 _hx6)
            have HO6 := Lib.hid hown6
            have HG6 := Lib.hid hg6
            go_roundw
            case rel =>
              refine ⟨k + 1, by omega, by go_num, ?_, (KK2.out.alloc _).grown HG6.out (fun r hr => (HO4.out.lt r hr).1)⟩
              rw [HRow.out, List.length_append, List.map_append, HM.out]
              exact HO6.out
            case measure => simp [intOf]; omega
      · obtain rfl : k = zs.length := by omega
        have ht : zs.take zs.length = zs := List.take_length
        rw [ht] at HO
        have HO' := Lib.hid (own_base HO.out HK2.out.size)
        clear ht
        go_wp2
        go_ret
        rw [HTu.out]
        exact ⟨_, rfl, HO'.out, HKr.out⟩
  · have h0' : (E.2 != 0) = true := by simp [h0]
    have HTu := Lib.hid (show rturnsS xs sort known = [] by unfold rturnsS; rw [← hE, if_neg h0])
    clear h0 hE
    go_enter Tryz.func55, Tryz.ntmps55
    go_wp2_with fail
    refine (rcheck_any A n c xs _ HT.out).mono ?_
    rw [← HE.out]
    rintro e w1 ⟨rfl, hk1⟩
    go_wp2
    go_ret
    rw [HTu.out]
    exact ⟨_, rfl, ⟨rfl, .inl ⟨rfl, rfl⟩⟩, hk1⟩
end Go.Proofs.YtcjpecdnenemaaaGreatDoor

namespace Go.Proofs.YtcjpecdnenemaaaGreatDoor
set_option linter.all false
open Go.RowKit Go.Shelf Go.Sort

section
variable {α : Type} [Inhabited α] [DecidableEq α]
theorem cmem {zs : List α} {z : α} (h : z ∈ zs) : z ∈ Lib.compact zs := by
  have key : ∀ j, j < zs.length → zs.toArray[j]! ∈ Lib.compact zs := by
    intro j
    induction j with
    | zero =>
      intro hj
      unfold Lib.compact Lib.compactUpTo
      rw [List.mem_map]
      exact ⟨0, List.mem_filter.2 ⟨List.mem_range.2 hj, by simp [Lib.keeps]⟩, rfl⟩
    | succ j ih =>
      intro hj
      by_cases e : zs.toArray[j + 1]! = zs.toArray[j]!
      · rw [e]; exact ih (by omega)
      · unfold Lib.compact Lib.compactUpTo
        rw [List.mem_map]
        exact ⟨j + 1, List.mem_filter.2 ⟨List.mem_range.2 hj, by simp [Lib.keeps]; simpa using e⟩, rfl⟩
  obtain ⟨j, hj, rfl⟩ := List.getElem_of_mem h
  have := key j hj
  simpa [getElem!_pos, hj] using this
theorem memc {zs : List α} {z : α} (h : z ∈ Lib.compact zs) : z ∈ zs := by
  unfold Lib.compact Lib.compactUpTo at h
  rw [List.mem_map] at h
  obtain ⟨j, hj, rfl⟩ := h
  rw [List.mem_filter, List.mem_range] at hj
  have hj1 := hj.1
  have e : zs.toArray[j]! = zs[j]'(by simpa using hj1) := by simp [getElem!_pos, show j < zs.length by simpa using hj1]
  rw [e]
  exact List.getElem_mem _
theorem compact_asc {le : α → α → Prop} (anti : ∀ a b, le a b → le b a → a = b) {zs : List α} (h : zs.Pairwise le) : (Lib.compact zs).Pairwise (fun a b => le a b ∧ a ≠ b) := by
  unfold Lib.compact Lib.compactUpTo
  rw [List.pairwise_map, List.pairwise_filter]
  refine List.Pairwise.imp_of_mem ?_ (List.pairwise_lt_range (n := zs.length))
  intro i j hi hj hij ki kj
  rw [List.mem_range] at hi hj
  have g : ∀ k (hk : k < zs.length), zs.toArray[k]! = zs[k] := fun k hk => by simp [getElem!_pos, hk]
  have hp := List.pairwise_iff_getElem.1 h
  have hle := hp i j hi hj hij
  simp only [g i hi, g j hj]
  refine ⟨hle, fun e => ?_⟩
  unfold Lib.keeps at kj
  simp only [decide_eq_true_eq] at kj
  rcases kj with kj | kj
  · omega
  · rw [g j hj, g (j - 1) (by omega)] at kj
    rcases Nat.lt_or_ge i (j - 1) with h1 | h1
    · have a1 := hp i (j - 1) hi (by omega) h1
      have a2 := hp (j - 1) j (by omega) hj (by omega)
      rw [← e] at a2
      exact kj (e.symm.trans (anti _ _ a1 a2))
    · have : i = j - 1 := by omega
      subst this
      exact kj e.symm
theorem uniq {le : α → α → Prop} (anti : ∀ a b, le a b → le b a → a = b) : ∀ (l1 l2 : List α), l1.Pairwise (fun a b => le a b ∧ a ≠ b) → l2.Pairwise (fun a b => le a b ∧ a ≠ b) → (∀ x, x ∈ l1 ↔ x ∈ l2) → l1 = l2
  | [], [], _, _, _ => rfl
  | [], b :: t, _, _, h => by have := (h b).2 (by simp); cases this
  | a :: t, [], _, _, h => by have := (h a).1 (by simp); cases this
  | a :: t, b :: u, h1, h2, h => by
    obtain ⟨p1, p2⟩ := List.pairwise_cons.1 h1
    obtain ⟨q1, q2⟩ := List.pairwise_cons.1 h2
    have hab : a = b := by
      rcases List.mem_cons.1 ((h a).1 (by simp)) with e | e
      · exact e
      · rcases List.mem_cons.1 ((h b).2 (by simp)) with e' | e'
        · exact e'.symm
        · exact anti _ _ (p1 b e').1 (q1 a e).1
    subst hab
    congr 1
    refine uniq anti t u p2 q2 (fun x => ⟨fun hx => ?_, fun hx => ?_⟩)
    · rcases List.mem_cons.1 ((h x).1 (by simp [hx])) with e | e
      · exact absurd e.symm (p1 x hx).2
      · exact e
    · rcases List.mem_cons.1 ((h x).2 (by simp [hx])) with e | e
      · exact absurd e.symm (q1 x hx).2
      · exact e
end
theorem le_antiL (a b : List UInt8) (h1 : a ≤ b) (h2 : b ≤ a) : a = b := List.le_antisymm h1 h2
theorem le_transL (a b c : List UInt8) (h1 : a ≤ b) (h2 : b ≤ c) : a ≤ c := List.le_trans h1 h2
theorem le_totalL (a b : List UInt8) : a ≤ b ∨ b ≤ a := List.le_total a b
theorem sortedL (l : List (List UInt8)) : (l.mergeSort fun x y => decide (x ≤ y)).Pairwise (· ≤ ·) := by
  have h := List.pairwise_mergeSort (le := fun (x y : List UInt8) => decide (x ≤ y)) (fun a b c h1 h2 => by simp only [decide_eq_true_eq] at *; exact le_transL a b c h1 h2) (fun a b => by simp only [Bool.or_eq_true, decide_eq_true_eq]; exact le_totalL a b) l
  exact h.imp (fun h => by simpa using h)
theorem sortedI (l : List Int) : (l.mergeSort fun x y => decide (x ≤ y)).Pairwise (· ≤ ·) := by
  have h := List.pairwise_mergeSort (le := fun (x y : Int) => decide (x ≤ y)) (fun a b c h1 h2 => by simp only [decide_eq_true_eq] at *; omega) (fun a b => by simp only [Bool.or_eq_true, decide_eq_true_eq]; omega) l
  exact h.imp (fun h => by simpa using h)
/-- a strict order of strings -/
def StrR (a b : ByteArray) : Prop := a.data.toList ≤ b.data.toList ∧ a ≠ b
theorem data_ne {a b : ByteArray} (h : a.data.toList ≠ b.data.toList) : a ≠ b := fun e => h (by rw [e])
theorem data_eq {a b : ByteArray} (h : a.data.toList = b.data.toList) : a = b := by
  cases a; cases b
  simp only at h
  congr 1
  exact Array.toList_inj.1 h
theorem less_iff (a s : ByteArray) : Op.bytesLess a.toList s.toList = true ↔ a.data.toList < s.data.toList := by
  rw [bytesLess_eq, decide_eq_true_eq, ByteArray.toList_eq, ByteArray.toList_eq]
theorem insS_mem : ∀ (ss : List ByteArray) (s z : ByteArray), z ∈ insS ss s ↔ z ∈ ss ∨ z = s
  | [], s, z => by simp [insS]
  | a :: l, s, z => by
    have ih := insS_mem l s z
    unfold insS
    split
    · simp only [List.mem_cons, ih]
      constructor
      · rintro (h | h | h)
        · exact .inl (.inl h)
        · exact .inl (.inr h)
        · exact .inr h
      · rintro ((h | h) | h)
        · exact .inl h
        · exact .inr (.inl h)
        · exact .inr (.inr h)
    · split
      · rename_i h
        have e : a = s := bytes_eq h
        subst e
        simp only [List.mem_cons]
        constructor
        · exact .inl
        · rintro (h | h)
          · exact h
          · exact .inl h
      · simp only [List.mem_cons]
        constructor
        · rintro (h | h | h)
          · exact .inr h
          · exact .inl (.inl h)
          · exact .inl (.inr h)
        · rintro ((h | h) | h)
          · exact .inr (.inl h)
          · exact .inr (.inr h)
          · exact .inl h
theorem insS_asc : ∀ (ss : List ByteArray) (s : ByteArray), ss.Pairwise StrR → (insS ss s).Pairwise StrR
  | [], s, _ => by simp [insS]
  | a :: l, s, h => by
    obtain ⟨p1, p2⟩ := List.pairwise_cons.1 h
    unfold insS
    split
    · rename_i hl
      have hlt := (less_iff a s).1 hl
      refine List.pairwise_cons.2 ⟨fun z hz => ?_, insS_asc l s p2⟩
      rcases (insS_mem l s z).1 hz with hz | rfl
      · exact p1 z hz
      · exact ⟨List.le_of_lt hlt, data_ne (fun e => by rw [e] at hlt; exact List.lt_irrefl _ hlt)⟩
    · rename_i hl
      have hle : s.data.toList ≤ a.data.toList := by
        have : ¬ a.data.toList < s.data.toList := fun h => hl ((less_iff a s).2 h)
        exact List.not_lt.1 this
      split
      · exact h
      · rename_i hne
        have hne' : s ≠ a := fun e => hne (by rw [e]; simp)
        refine List.pairwise_cons.2 ⟨fun z hz => ?_, h⟩
        rcases List.mem_cons.1 hz with rfl | hz
        · exact ⟨hle, hne'⟩
        · have h3 := p1 z hz
          refine ⟨le_transL _ _ _ hle h3.1, fun e => ?_⟩
          subst e
          exact hne' (data_eq (le_antiL _ _ hle h3.1))
theorem gst_some {sort : ByteArray} {day : Int} : ∀ (l : List Eqv) (acc : Option Eqv), (acc.isSome = true ∨ ∃ y ∈ l, fitB sort day y = true) → (l.foldl (gst sort day) acc).isSome = true
  | [], acc, h => by
    rcases h with h | ⟨y, hy, _⟩
    · exact h
    · cases hy
  | x :: l, acc, h => by
    rw [List.foldl_cons]
    refine gst_some l _ ?_
    by_cases hx : fitB sort day x = true
    · left
      unfold gst
      rw [if_pos hx]
      rcases acc with _ | b
      · rfl
      · dsimp only
        split <;> rfl
    · rcases h with h | ⟨y, hy, hf⟩
      · left
        unfold gst
        rw [if_neg hx]
        exact h
      · right
        rcases List.mem_cons.1 hy with rfl | hy
        · exact absurd hf hx
        · exact ⟨y, hy, hf⟩
theorem force_some {xs : List Eqv} {sort : ByteArray} {day known : Int} : (inForceS xs sort day known).isSome = true ↔ ∃ y ∈ cntS xs known, fitB sort day y = true := by
  constructor
  · intro h
    obtain ⟨r, hr⟩ := Option.isSome_iff_exists.1 h
    unfold inForceS bestS at hr
    rcases gst_mem sort day _ _ _ hr with h | ⟨h1, h2⟩
    · cases h
    · exact ⟨r, h1, h2⟩
  · intro h
    unfold inForceS bestS
    exact gst_some _ _ (.inr h)
theorem racc_asc (xs : List Eqv) (day known : Int) : ∀ k, (raccS xs day known k).Pairwise StrR
  | 0 => by simp [raccS]
  | k + 1 => by
    have ih := racc_asc xs day known k
    rcases h : xs[k]? with _ | x
    · have hk : xs.length ≤ k := List.getElem?_eq_none_iff.1 h
      have e : raccS xs day known (k + 1) = raccS xs day known k := by unfold raccS; rw [List.take_of_length_le (by omega), List.take_of_length_le hk]
      rw [e]; exact ih
    · rw [racc_succ h]
      unfold rstep
      split
      · exact insS_asc _ _ ih
      · exact ih
theorem fold_mem (xs : List Eqv) (day known : Int) : ∀ (l : List Eqv) (acc : List ByteArray) (z : ByteArray), z ∈ l.foldl (rstep xs day known) acc ↔ z ∈ acc ∨ ∃ x ∈ l, (x.off = 0 ∧ (inForceS xs x.sort day known).isSome = true) ∧ x.sort = z
  | [], acc, z => by simp
  | x :: l, acc, z => by
    rw [List.foldl_cons, fold_mem xs day known l]
    unfold rstep
    split
    · rename_i hc
      rw [insS_mem]
      constructor
      · rintro ((h | h) | ⟨y, hy, h⟩)
        · exact .inl h
        · exact .inr ⟨x, by simp, hc, h.symm⟩
        · exact .inr ⟨y, by simp [hy], h⟩
      · rintro (h | ⟨y, hy, h1, h2⟩)
        · exact .inl (.inl h)
        · rcases List.mem_cons.1 hy with rfl | hy
          · exact .inl (.inr h2.symm)
          · exact .inr ⟨y, hy, h1, h2⟩
    · rename_i hc
      constructor
      · rintro (h | ⟨y, hy, h⟩)
        · exact .inl h
        · exact .inr ⟨y, by simp [hy], h⟩
      · rintro (h | ⟨y, hy, h1, h2⟩)
        · exact .inl h
        · rcases List.mem_cons.1 hy with rfl | hy
          · exact absurd h1 hc
          · exact .inr ⟨y, hy, h1, h2⟩
theorem racc_mem (xs : List Eqv) (day known : Int) (z : ByteArray) : z ∈ raccS xs day known xs.length ↔ ∃ x ∈ xs, (x.off = 0 ∧ (inForceS xs x.sort day known).isSome = true) ∧ x.sort = z := by
  unfold raccS
  rw [List.take_length, fold_mem]
  simp
theorem fit_iff {sort : ByteArray} {day : Int} {y : Eqv} : fitB sort day y = true ↔ y.sort = sort ∧ y.frm ≤ day := by
  unfold fitB
  rw [Bool.and_eq_true, decide_eq_true_eq]
  exact ⟨fun ⟨h1, h2⟩ => ⟨bytes_eq h1, h2⟩, fun ⟨h1, h2⟩ => ⟨by rw [h1]; simp, h2⟩⟩
theorem cnt_off {xs : List Eqv} {known : Int} {y : Eqv} (h : y ∈ cntS xs known) : y ∈ xs ∧ y.off = 0 := by
  unfold cntS at h
  obtain ⟨h1, h2⟩ := List.mem_filter.1 h
  refine ⟨h1, ?_⟩
  unfold cntP at h2
  simp only [Bool.and_eq_true, decide_eq_true_eq, beq_iff_eq] at h2
  first
    | exact h2.1.1
    | (simp_all; done)
/-- **Sorts** -/
theorem sorts_eq (xs : List Eqv) (day known : Int) : sortsS xs day known = (rsortsS xs day known).map (fun z => z.data.toList) := by
  unfold sortsS rsortsS
  split
  · refine uniq (le := (· ≤ ·)) le_antiL _ _ (compact_asc le_antiL (sortedL _)) ?_ (fun l => ?_)
    · rw [List.pairwise_map]
      exact (racc_asc xs day known _).imp (fun {a b} h => ⟨h.1, fun e => h.2 (data_eq e)⟩)
    · constructor
      · intro h
        have h := List.mem_mergeSort.1 (memc h)
        unfold lowS at h
        obtain ⟨y, hy, rfl⟩ := List.mem_map.1 h
        obtain ⟨h1, h2⟩ := List.mem_filter.1 hy
        obtain ⟨h3, h4⟩ := cnt_off h1
        exact List.mem_map.2 ⟨y.sort, (racc_mem xs day known y.sort).2 ⟨y, h3, ⟨h4, force_some.2 ⟨y, h1, fit_iff.2 ⟨rfl, by simpa using h2⟩⟩⟩, rfl⟩, rfl⟩
      · intro h
        obtain ⟨z, hz, rfl⟩ := List.mem_map.1 h
        obtain ⟨x, hx, ⟨h1, h2⟩, rfl⟩ := (racc_mem xs day known z).1 hz
        obtain ⟨y, hy, hf⟩ := force_some.1 h2
        obtain ⟨h3, h4⟩ := fit_iff.1 hf
        refine cmem (List.mem_mergeSort.2 ?_)
        unfold lowS
        exact List.mem_map.2 ⟨y, List.mem_filter.2 ⟨hy, by simpa using h4⟩, by rw [h3]⟩
  · rfl
theorem turn_at {xs : List Eqv} {sort : ByteArray} {known d : Int} (h : turnB xs sort known d = true) : ∃ y ∈ xs, y.off = 0 ∧ y.sort = sort ∧ y.frm = d := by
  by_cases hall : ∀ x ∈ cntS xs known, fitB sort d x = fitB sort (d - 1) x
  · exfalso
    have e : inForceS xs sort d known = inForceS xs sort (d - 1) known := by
      unfold inForceS bestS
      exact fold_day sort d (d - 1) _ hall none
    unfold turnB at h
    rw [e] at h
    simp at h
  · obtain ⟨x, hx⟩ := Classical.not_forall.1 hall
    obtain ⟨hm, hne⟩ := Classical.not_imp.1 hx
    obtain ⟨h1, h2⟩ := cnt_off hm
    have hs : x.sort = sort ∧ x.frm = d := by
      rcases h3 : fitB sort d x with _ | _
      · rcases h4 : fitB sort (d - 1) x with _ | _
        · exact absurd (h3.trans h4.symm) hne
        · obtain ⟨h5, h6⟩ := fit_iff.1 h4
          have : fitB sort d x = true := fit_iff.2 ⟨h5, by omega⟩
          rw [h3] at this; cases this
      · obtain ⟨h5, h6⟩ := fit_iff.1 h3
        refine ⟨h5, ?_⟩
        rcases Int.lt_or_le (d - 1) x.frm with h7 | h7
        · omega
        · exact absurd (h3.trans (fit_iff.2 ⟨h5, h7⟩).symm) hne
    exact ⟨x, h1, h2, hs.1, hs.2⟩
/-- **Turns** -/
theorem turns_eq (xs : List Eqv) (sort : ByteArray) (known : Int) : turnsS xs sort known = rturnsS xs sort known := by
  unfold turnsS rturnsS
  split
  · rename_i hc
    have hf : ∀ x ∈ xs, formB x = true := fun x hx => chk_form hc hx
    refine uniq (le := (· ≤ ·)) (fun a b h1 h2 => by omega) _ _ ?_ ?_ (fun d => ?_)
    · exact (compact_asc (le := fun (a b : Int) => a ≤ b) (fun a b h1 h2 => by omega) (sortedI _)).filter _
    · exact ((begL_asc hf _ 0 (by omega)).2).filter _
    · rw [List.mem_filter, List.mem_filter]
      constructor
      · rintro ⟨_, h2⟩
        obtain ⟨y, hy, h3, h4, rfl⟩ := turn_at h2
        exact ⟨begS_mem hf hy h3, h2⟩
      · rintro ⟨_, h2⟩
        obtain ⟨y, hy, h3, h4, rfl⟩ := turn_at h2
        exact ⟨starts_mem hy (by rw [h4]; simp), h2⟩
  · rfl
end Go.Proofs.YtcjpecdnenemaaaGreatDoor

namespace Go.Proofs.YtcjpecdnenemaaaGreatDoor
set_option linter.all false
open Go.RowKit Go.Shelf

theorem own_outI {w : World} {base n : Nat} {v : Value} {xs : List Int} (h : w.ownsRow base 3 1 v n (xs.map (Value.int .i64))) : ∃ A c, v = .slice A n c ∧ StA_i w A n c xs := by
  have hlen : (xs.map (Value.int .i64)).length = n * 1 := h.1
  have hn : xs.length = n := by simpa using hlen
  rcases h.2 with ⟨h1, h2⟩ | ⟨g, cap, cur, h1, _, hg, hnc, hc, hs, ht⟩
  · subst h1; subst h2
    refine ⟨_, _, rfl, hn, by omega, by omega, fun j z hz => ?_⟩
    have := (List.getElem?_eq_some_iff.1 hz).1
    omega
  · subst h1
    refine ⟨_, _, rfl, hn, hnc, by unfold maxLen at hc; exact hc, fun j z hz => ⟨g, 0, rfl, ?_⟩⟩
    have hj : j < n := by rw [← hn]; exact (List.getElem?_eq_some_iff.1 hz).1
    rw [show 0 + j = j by omega, h.cellAt j (by omega), List.getElem?_map, hz]
    rfl
def IRes (w : World) (T : List Int) (e : Ending) (w' : World) : Prop := ∃ A c, e = .returned (.slice A T.length c) ∧ StA_i w' A T.length c T ∧ Kept w w'
def SRes (w : World) (T : List ByteArray) (e : Ending) (w' : World) : Prop := ∃ A c, e = .returned (.slice A T.length c) ∧ StA_s w' A T.length c T ∧ Kept w w'
theorem ires_of {w w' : World} {T : List Int} {e : Ending} (h : IntRes w T e w') : IRes w T e w' := by
  obtain ⟨v, rfl, hown, hk⟩ := h
  obtain ⟨A, c, rfl, hs⟩ := own_outI hown
  exact ⟨A, c, rfl, hs, hk⟩
theorem sres_of {w w' : World} {T : List ByteArray} {e : Ending} (h : WordsRes w T e w') : SRes w T e w' := by
  obtain ⟨A, n, c, rfl, hs, hk⟩ := h
  obtain rfl := hs.1
  exact ⟨A, c, rfl, hs, hk⟩
theorem sres_str {w w' : World} {T : List ByteArray} {e : Ending} (h : StrRes w (T.map (fun z => z.data.toList)) e w') : SRes w T e w' := by
  obtain ⟨v, rfl, hown, hk⟩ := h
  rw [List.map_map, List.length_map] at hown
  have e1 : T.map (encStr ∘ fun z => z.data.toList) = T.map Value.string := List.map_congr_left (fun z _ => encStr_of z)
  rw [e1] at hown
  obtain ⟨A, c, rfl, hs⟩ := own_outS hown
  exact ⟨A, c, rfl, hs, hk⟩
set_option maxRecDepth 100000 in
set_option maxHeartbeats 3200000 in
theorem equalI_any (A B : Option Addr) (n c d : Nat) (ss : List Int) (w : World) (h1 : StA_i w A n c ss) (h2 : StA_i w B n d ss) :
    Calls Tryz.prog 53 #[.slice A n c, .slice B n d] w fun e w' => e = .returned (.bool true) ∧ Kept w w' := by
  have H1 := Lib.hid h1
  have H2 := Lib.hid h2
  have hnc := h1.2.1
  have hcm := h1.2.2.1
  have hnd := h2.2.1
  have hdm := h2.2.2.1
  clear h1 h2
  have hnn : ((n : Int) != (n : Int)) = false := by simp
  go_enter Tryz.func53, Tryz.ntmps53
  go_wp2_with fail
  go_loopw [13] (fun i wr => ∃ k : Nat, k ≤ n ∧ i = .int .i64 k ∧ Kept w wr) (fun i _ => n - (intOf i).toNat)
  case atStart => exact ⟨0, by omega, by first | rfl | go_num, Kept.refl _⟩
  case round =>
    obtain ⟨k, hk, rfl, hkr⟩ := hrel
    have HKR := Lib.hid hkr
    clear hkr
    by_cases hlt : k < n
    · have hxl : k < ss.length := by rw [H1.out.1]; exact hlt
      obtain ⟨x, hx⟩ : ∃ x, ss[k]? = some x := ⟨ss[k]'hxl, List.getElem?_eq_getElem hxl⟩
      obtain ⟨b, off, hA, hcc⟩ := H1.out.2.2.2 k x hx
      obtain ⟨b2, off2, hB, hcc2⟩ := H2.out.2.2.2 k x hx
      subst hA
      subst hB
      have q0 := (HKR.out.cells _ _ (cell_lt hcc)).trans hcc
      have p0 := (HKR.out.cells _ _ (cell_lt hcc2)).trans hcc2
      have i0 : (0 : Int) ≤ (k : Int) := by omega
      have i1 : (k : Int) < (n : Int) := by omega
      have it : (k : Int).toNat = k := by omega
      have he : (x != x) = false := by simp
      clear hcc hcc2 hx
      go_upto_region 6 with (fail)
      go_cut [24] (fun s24 wx => s24 = .bool false ∧ Kept wr wx)
      case first =>
        go_quiet (fail)
        go_wp2
        go_meet
        exact ⟨by first | rfl | (simp; done), by first | exact Kept.refl _ | exact (Kept.refl _).drewN _ | exact (Kept.refl _).drew⟩
      obtain ⟨rfl, kx⟩ := hcut
      have KX := Lib.hid (HKR.out.trans kx)
      clear kx q0 p0
      go_wp2
      go_roundw
      case rel => exact ⟨k + 1, by omega, by go_num, KX.out⟩
      case measure => simp [intOf]; omega
    · obtain rfl : k = n := by omega
      go_wp2
      go_ret
      exact ⟨rfl, HKR.out⟩
set_option maxRecDepth 100000 in
set_option maxHeartbeats 8000000 in
theorem inforce6_any (A : Option Addr) (n c : Nat) (xs : List Eqv) (sort : ByteArray) (day known : Int) (hs : sort.size ≤ 9223372036854775807) (w : World) (hE : Env w) (hT : TabA w A n c xs) :
    Calls Tryz.prog 6 #[.slice A n c, .string sort, .int .i64 day, .int .i64 known] w fun e w' => e = .returned (.bool true) ∧ Kept w w' := by
  have HT := Lib.hid hT
  have HE := Lib.hid hE
  have hnc := hT.2.1
  have hcm := hT.2.2.1
  clear hT hE
  obtain ⟨fb, hfb⟩ : ∃ fb, fb = fewB n := ⟨_, rfl⟩
  have HFB := Lib.hid hfb
  have HF : RowKit.Hid (∀ W, Calls Tryz.prog 47 #[.slice A n c] W fun e w' => e = .returned (.bool fb) ∧ W = w') := Lib.hid (fun W => by rw [hfb]; exact few_any A n c (by omega) W)
  clear hfb
  cases fb
  · go_enter Tryz.func6, Tryz.ntmps6
    go_wp2_with fail
    refine (HF.out _).mono ?_
    rintro e w1 ⟨rfl, rfl⟩
    go_wp2_with fail
    refine (alive_any _ HE.out).mono ?_
    rintro e w2 ⟨rfl, hk2⟩
    go_wp2
    go_ret
    exact ⟨rfl, hk2⟩
  by_cases hl : 100 < sort.size
  · have d1 : decide ((100 : Int) < (sort.size : Int)) = true := decide_eq_true (by omega)
    go_enter Tryz.func6, Tryz.ntmps6
    go_wp2_with fail
    refine (HF.out _).mono ?_
    rintro e w1 ⟨rfl, rfl⟩
    go_wp2_with fail
    refine (alive_any _ HE.out).mono ?_
    rintro e w2 ⟨rfl, hk2⟩
    go_wp2
    go_ret
    exact ⟨rfl, hk2⟩
  have d1 : decide ((100 : Int) < (sort.size : Int)) = false := decide_eq_false (by omega)
  have hle := few_le HFB.out.symm
  obtain ⟨⟨⟨p0, p1, p2, p3, p4, p5, p6⟩, o⟩, hp⟩ : ∃ r, r = ofS xs sort day known := ⟨_, rfl⟩
  obtain ⟨T, hTt⟩ : ∃ T, T = rsortsS xs day known := ⟨_, rfl⟩
  obtain ⟨U, hU⟩ : ∃ U, U = rturnsS xs sort known := ⟨_, rfl⟩
  have C48 : RowKit.Hid (∀ W, Kept w W → Calls Tryz.prog 48 #[.slice A n c, .string sort, .int .i64 day, .int .i64 known] W fun e w' => e = .returned (.tuple #[.agg #[.int .i64 p0, .int .i64 p1, .int .i64 p2, .string p3, .int .i64 p4, .int .i64 p5, .int .i64 p6], .int .i64 o]) ∧ Kept W w') := Lib.hid (fun W hW => by have := of_any A n c xs sort day known W (HT.out.kept hW) (by omega); rw [← hp] at this; exact this)
  have C49 : RowKit.Hid (∀ W, Kept w W → Calls Tryz.prog 49 #[.slice A n c, .string sort, .int .i64 day, .int .i64 known] W fun e w' => e = .returned (.tuple #[.agg #[.int .i64 p0, .int .i64 p1, .int .i64 p2, .string p3, .int .i64 p4, .int .i64 p5, .int .i64 p6], .int .i64 o]) ∧ Kept W w') := Lib.hid (fun W hW => by have := rof_any A n c xs sort day known W (HT.out.kept hW); rw [← hp] at this; exact this)
  have C51 : RowKit.Hid (∀ W, Kept w W → Calls Tryz.prog 51 #[.slice A n c, .int .i64 day, .int .i64 known] W (SRes W T)) := Lib.hid (fun W hW => by
    have h := sorts_any A n c xs day known W (HT.out.kept hW) (by omega)
    rw [sorts_eq, ← hTt] at h
    exact h.mono (fun e w' h => sres_str h))
  have C52 : RowKit.Hid (∀ W, Kept w W → Calls Tryz.prog 52 #[.slice A n c, .int .i64 day, .int .i64 known] W (SRes W T)) := Lib.hid (fun W hW => by
    have h := rsorts_any A n c xs day known W (HT.out.kept hW) (by omega)
    rw [← hTt] at h
    exact h.mono (fun e w' h => sres_of h))
  have C54 : RowKit.Hid (∀ W, Kept w W → Calls Tryz.prog 54 #[.slice A n c, .string sort, .int .i64 known] W (IRes W U)) := Lib.hid (fun W hW => by
    have h := turns_any A n c xs sort known W (HT.out.kept hW) (by omega)
    rw [turns_eq, ← hU] at h
    exact h.mono (fun e w' h => ires_of h))
  have C55 : RowKit.Hid (∀ W, Kept w W → Calls Tryz.prog 55 #[.slice A n c, .string sort, .int .i64 known] W (IRes W U)) := Lib.hid (fun W hW => by
    have h := rturns_any A n c xs sort known W (HT.out.kept hW) (by omega)
    rw [← hU] at h
    exact h.mono (fun e w' h => ires_of h))
  have hpp : (p3.toList == p3.toList) = true := by simp
  clear hp hTt hU
  go_enter Tryz.func6, Tryz.ntmps6
  go_wp2_with fail
  refine (HF.out _).mono ?_
  rintro e w1 ⟨rfl, rfl⟩
  go_wp2_with fail
  refine (C48.out _ (Kept.refl _)).mono ?_
  rintro e w2 ⟨rfl, hk2⟩
  obtain ⟨W2, hW2⟩ : ∃ W, W = w2.alloc (.cells #[.int .i64 p0, .int .i64 p1, .int .i64 p2, .string p3, .int .i64 p4, .int .i64 p5, .int .i64 p6] 37) := ⟨_, rfl⟩
  have RA : RowKit.Hid (RowC W2 w2.heap.size [.int .i64 p0, .int .i64 p1, .int .i64 p2, .string p3, .int .i64 p4, .int .i64 p5, .int .i64 p6]) := Lib.hid (by rw [hW2]; exact RowC.new w2 [.int .i64 p0, .int .i64 p1, .int .i64 p2, .string p3, .int .i64 p4, .int .i64 p5, .int .i64 p6] 37)
  have K2 := Lib.hid (hk2.trans (show Kept w2 W2 by rw [hW2]; exact (Kept.refl _).alloc _))
  have HW2 := Lib.hid hW2
  clear hW2 hk2
  go_upto_region 4 with (fail)
  rw [← HW2.out]
  go_wp2_with fail
  refine (C49.out _ K2.out).mono ?_
  rintro e w3 ⟨rfl, hk3⟩
  obtain ⟨W3, hW3⟩ : ∃ W, W = w3.alloc (.cells #[.int .i64 p0, .int .i64 p1, .int .i64 p2, .string p3, .int .i64 p4, .int .i64 p5, .int .i64 p6] 37) := ⟨_, rfl⟩
  have RB : RowKit.Hid (RowC W3 w3.heap.size [.int .i64 p0, .int .i64 p1, .int .i64 p2, .string p3, .int .i64 p4, .int .i64 p5, .int .i64 p6]) := Lib.hid (by rw [hW3]; exact RowC.new w3 [.int .i64 p0, .int .i64 p1, .int .i64 p2, .string p3, .int .i64 p4, .int .i64 p5, .int .i64 p6] 37)
  have K23 := Lib.hid (hk3.trans (show Kept w3 W3 by rw [hW3]; exact (Kept.refl _).alloc _))
  have K3 := Lib.hid (K2.out.trans K23.out)
  have RA3 := Lib.hid (RA.out.kept K23.out)
  have HW3 := Lib.hid hW3
  clear hW3 hk3
  go_upto_region 5 with (fail)
  rw [← HW3.out]
  go_wp2_with fail
  refine (alive_any _ (HE.out.kept K3.out)).mono ?_
  rintro e w4 ⟨rfl, hk4⟩
  have K4 := Lib.hid (K3.out.trans hk4)
  have ra := RA3.out.kept hk4
  have rb := RB.out.kept hk4
  have a0 := (ra 0 _ rfl).1
  have a1 := (ra 1 _ rfl).1
  have a2 := (ra 2 _ rfl).1
  have a3 := (ra 3 _ rfl).1
  have a4 := (ra 4 _ rfl).1
  have a5 := (ra 5 _ rfl).1
  have a6 := (ra 6 _ rfl).1
  have la := cell_lt a0
  have b0 := (rb 0 _ rfl).1
  have b1 := (rb 1 _ rfl).1
  have b2 := (rb 2 _ rfl).1
  have b3 := (rb 3 _ rfl).1
  have b4 := (rb 4 _ rfl).1
  have b5 := (rb 5 _ rfl).1
  have b6 := (rb 6 _ rfl).1
  have lb := cell_lt b0
  clear hk4 ra rb
  go_wp2_with fail
  refine (C51.out _ K4.out).mono ?_
  rintro e w5 ⟨A5, c5, rfl, hs5, hk5⟩
  have S5 := Lib.hid hs5
  have K5 := Lib.hid (K4.out.trans hk5)
  clear hs5 hk5
  clear a0 a1 a2 a3 a4 a5 a6 la
  clear b0 b1 b2 b3 b4 b5 b6 lb
  go_wp2_with fail
  refine (C52.out _ K5.out).mono ?_
  rintro e w6 ⟨A6, c6, rfl, hs6, hk6⟩
  have C50 := Lib.hid (equalS_any A5 A6 T.length c5 c6 T w6 (S5.out.kept hk6) hs6)
  have K6 := Lib.hid (K5.out.trans hk6)
  clear hs6 hk6
  go_wp2_with fail
  refine C50.out.mono ?_
  rintro e w7 ⟨rfl, hk7⟩
  have K7 := Lib.hid (K6.out.trans hk7)
  clear hk7
  go_wp2_with fail
  refine (C54.out _ K7.out).mono ?_
  rintro e w8 ⟨A8, c8, rfl, hs8, hk8⟩
  have S8 := Lib.hid hs8
  have K8 := Lib.hid (K7.out.trans hk8)
  clear hs8 hk8
  go_wp2_with fail
  refine (C55.out _ K8.out).mono ?_
  rintro e w9 ⟨A9, c9, rfl, hs9, hk9⟩
  have C53 := Lib.hid (equalI_any A8 A9 U.length c8 c9 U w9 (S8.out.kept hk9) hs9)
  have K9 := Lib.hid (K8.out.trans hk9)
  clear hs9 hk9
  go_wp2_with fail
  refine C53.out.mono ?_
  rintro e w10 ⟨rfl, hk10⟩
  go_wp2
  go_ret
  exact ⟨by first | rfl | (simp; done), K9.out.trans hk10⟩
end Go.Proofs.YtcjpecdnenemaaaGreatDoor
