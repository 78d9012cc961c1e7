/-
  starts: the days on which the equivalents of a sort begin.
  Turns: the days on which what a beast takes up turns.
  sample: its records.
  sample.
-/
import Derived.Test.YtcjpecdnenemaaaGreatDoorGN
import Derived.Test.YtcjpecdnenemaaaGreatDoorGJ
import Derived.Test.YtcjpecdnenemaaaGreatDoorGK
import Derived.Test.YtcjpecdnenemaaaGreatDoorGF
import Derived.Sort.OwnSortedInts
import Derived.Sort.Grow
import Derived.Lib.OwnBridge
namespace Go.Proofs.YtcjpecdnenemaaaGreatDoor
set_option linter.all false
open Go.RowKit Go.Shelf Go.Sort

/-- the days from which the records of a sort hold, in the table's order -/
def frmS (xs : List Eqv) (sort : ByteArray) : List Int := (xs.filter fun x => x.sort.toList == sort.toList).map (·.frm)
def startsS (xs : List Eqv) (sort : ByteArray) : List Int := Lib.compact ((frmS xs sort).mergeSort fun x y => decide (x ≤ y))
/-- a row of ints of the call's own -/
def IntRes (w : World) (zs : List Int) (e : Ending) (w' : World) : Prop := ∃ v, e = .returned v ∧ w'.ownsRow w.heap.size 3 1 v zs.length (zs.map (Value.int .i64)) ∧ Kept w w'
theorem info3 : (Tryz.prog.info? 3).map (fun i => (i.zero, i.size, i.bytes)) = some (some (.int .i64 0), 1, 8) := by kernel_rfl
theorem frmS_yes {xs : List Eqv} {sort : ByteArray} {k : Nat} {x : Eqv} (h : xs[k]? = some x) (hp : (x.sort.toList == sort.toList) = true) : frmS (xs.take (k + 1)) sort = frmS (xs.take k) sort ++ [x.frm] := by
  unfold frmS; rw [filt_yes h hp]; simp
theorem frmS_no {xs : List Eqv} {sort : ByteArray} {k : Nat} {x : Eqv} (h : xs[k]? = some x) (hp : (x.sort.toList == sort.toList) = false) : frmS (xs.take (k + 1)) sort = frmS (xs.take k) sort := by
  unfold frmS; rw [filt_no h hp]
theorem frmS_le (xs : List Eqv) (sort : ByteArray) : (frmS xs sort).length ≤ xs.length := by
  unfold frmS; rw [List.length_map]; exact List.length_filter_le _ _
theorem one1 (z : Int) : ∀ u ∈ [Value.int .i64 z], u.oneCell' = true := by
  intro u hu
  simp at hu
  subst hu; rfl

theorem own_nil {w : World} {b : Nat} {e : TypeId} {sz n : Nat} {ys : List Value} (h : w.ownsRow b e sz (.slice none 0 0) n ys) : n = 0 := by
  rcases h.2 with ⟨_, h⟩ | ⟨g, cap, cur, h, _⟩
  · exact h
  · cases h
/-- the sorted, compacted row -/
theorem left_ofI {w w1 : World} {g cap nn q : Nat} {os : Array Obj} {zs : List Int} (hown : w1.ownsRow w.heap.size 3 1 (.slice (some ⟨g, 0, none⟩) zs.length cap) zs.length (zs.map (Value.int .i64))) (hbel : Kept w w1) :
    IntRes w (Lib.compact (zs.mergeSort fun x y => decide (x ≤ y))) (.returned (.slice (some ⟨g, 0, none⟩) (Lib.compact (zs.mergeSort fun x y => decide (x ≤ y))).length cap))
      (putRow (Value.int .i64) (Sort.ahead (grow (putRow (Value.int .i64) (Sort.ahead w1 nn) g 0 (zs.mergeSort fun x y => decide (x ≤ y)).toArray) os) q) g 0 (Lib.compact (zs.mergeSort fun x y => decide (x ≤ y)) ++ List.replicate (zs.length - (Lib.compact (zs.mergeSort fun x y => decide (x ≤ y))).length) 0).toArray) := by
  have hl2 : (zs.mergeSort fun x y => decide (x ≤ y)).length = zs.length := List.length_mergeSort zs
  have hle := Lib.compact_length_le (zs.mergeSort fun x y => decide (x ≤ y))
  rcases hown.2 with ⟨h0, _⟩ | ⟨g', cap', cur, hv, hbase, hb, h1, h2, h3, h4⟩
  · cases h0
  cases hv
  have hs := ownsRow_sortedI (n := nn) (os := os) (ts := zs.mergeSort fun x y => decide (x ≤ y)) hl2 hbase hb h1 h2 h3
  have hc := Lib.ownsRow_putRow (q := q) (k := (Lib.compact (zs.mergeSort fun x y => decide (x ≤ y))).length) (ys := Lib.compact (zs.mergeSort fun x y => decide (x ≤ y)) ++ List.replicate (zs.length - (Lib.compact (zs.mergeSort fun x y => decide (x ≤ y))).length) 0) hs (by simp; omega) (by omega)
  rw [List.take_left] at hc
  exact ⟨_, rfl, hc, Lib.below_putRow (hbel.below.grown (grownBy_sortedI _) hbel.size (fun j hj => by cases hj; exact hbase)) hbase⟩

set_option maxRecDepth 100000 in
set_option maxHeartbeats 3200000 in
theorem starts_any (A : Option Addr) (n c : Nat) (xs : List Eqv) (sort : ByteArray) (w : World) (hT : TabA w A n c xs) (hlt : n ≤ 1000000) :
    Calls Tryz.prog 121 #[.slice A n c, .string sort] w (IntRes w (startsS xs sort)) := by
  obtain ⟨i0, hi0, hz0, hz1, hz2⟩ := info_parts info3
  have HT := Lib.hid hT
  have hnc := hT.2.1
  have hcm := hT.2.2.1
  clear hT
  go_enter Tryz.func121, Tryz.ntmps121
  go_wp2
  go_loopw [5, 10] (fun v i wr => ∃ k : Nat, k ≤ n ∧ i = .int .i64 k ∧ wr.ownsRow w.heap.size 3 1 v (frmS (xs.take k) sort).length ((frmS (xs.take k) sort).map (Value.int .i64)) ∧ Kept w wr) (fun _ i _ => n - (intOf i).toNat)
  case atStart => exact ⟨0, by omega, by first | rfl | go_num, by exact ⟨rfl, .inl ⟨rfl, rfl⟩⟩, Kept.refl _⟩
  case round =>
    obtain ⟨k, hk, rfl, hown, hkr⟩ := hrel
    have HO := Lib.hid hown
    clear hown
    by_cases hlt' : k < n
    · obtain ⟨b, off, hA, htab⟩ := HT.out.2.2.2.2 (by omega)
      subst hA
      have hxl : k < xs.length := by rw [HT.out.1]; exact hlt'
      obtain ⟨x, hx⟩ : ∃ x, xs[k]? = some x := ⟨xs[k]'hxl, List.getElem?_eq_getElem hxl⟩
      obtain ⟨q0, q1, q2, q3, q4, q5, q6⟩ := (htab k x hx).kept hkr
      have Hx := Lib.hid hx
      have hle := frmS_le (xs.take k) sort
      have hl : (xs.take k).length = k := by rw [List.length_take]; omega
      rw [hl] at hle
      have Hle := Lib.hid hle
      clear hx htab hl hle
      by_cases hs : (x.sort.toList == sort.toList) = true
      · have HY := Lib.hid (frmS_yes Hx.out hs)
        have HN := Lib.hid (news_of (W := wr.alloc (boxX x)) (cs := [.int .i64 x.frm]) (t := 3) (m := wr.heap.size + 1) (by simp))
        have H1 := Lib.hid (one1 x.frm)
        have HK := Lib.hid hkr
        obtain ⟨m, hm⟩ : ∃ m, (frmS (xs.take k) sort).length = m := ⟨_, rfl⟩
        have HM := Lib.hid hm
        have HO1 := Lib.hid (own_kept HO.out ((Kept.refl _).alloc (boxX x)))
        rw [hm] at HO1
        have hmk : m ≤ k := by have := Hle.out; omega
        unfold boxX at HN HO1
        clear hm
        go_wp2_with (at_builtin; refine wpList_append_own _ rfl (.tmp 18) (.tmp 21) 55 rfl w.heap.size 3 i0 _ 1 8 Tryz.underlying55 hi0 hz0 hz1 hz2 rfl (by decide) _ m ((frmS (xs.take k) sort).map (Value.int .i64)) rfl (own_kept HO1.out ((Kept.refl _).alloc _)) ⟨wr.heap.size + 1, 0, none⟩ 1 1 [.int .i64 x.frm] rfl rfl HN.out H1.out (by simp only [maxLen]; omega) (by omega) (by have := HK.out.size; simp at this ⊢; omega) ?_; intro v' w6 hown6 hg6 _hx6)
        have HO6 := Lib.hid hown6
        have HG6 := Lib.hid hg6
        go_roundw
        case rel =>
          refine ⟨k + 1, by omega, by go_num, ?_, ?_⟩
          · rw [HY.out, List.length_append, List.map_append, HM.out]
            exact HO6.out
          · exact ((HK.out.alloc _).alloc _).grown HG6.out (fun r hr => (HO.out.lt r hr).1)
        case measure => simp [intOf]; omega
      · have hsb : (x.sort.toList == sort.toList) = false := by simpa using hs
        have HY := Lib.hid (frmS_no Hx.out hsb)
        go_wp2
        go_roundw
        case rel =>
          refine ⟨k + 1, by omega, by go_num, ?_, hkr.alloc _⟩
          rw [HY.out]
          exact own_kept HO.out ((Kept.refl _).alloc _)
        case measure => simp [intOf]; omega
    · obtain rfl : k = n := by omega
      have ht : xs.take k = xs := List.take_of_length_le (by rw [HT.out.1]; exact Nat.le_refl _)
      rw [ht] at HO
      obtain ⟨zs, hz⟩ : ∃ zs, frmS xs sort = zs := ⟨_, rfl⟩
      have hfl := frmS_le xs sort
      rw [HT.out.1] at hfl
      have HS := Lib.hid (show startsS xs sort = Lib.compact (zs.mergeSort fun x y => decide (x ≤ y)) by unfold startsS; rw [hz])
      rw [hz] at HO hfl
      clear ht hz
      rcases own_form HO.out with ⟨hnn, hz0⟩ | ⟨g1, c1, hnn', _⟩
      · have hz1 : zs = [] := List.eq_nil_of_length_eq_zero hz0
        subst hnn hz1
        have HO' := Lib.hid HO.out
        have cSort := Tryz.slices_Sort_int_none none 0 wr
        have cComp := Tryz.slices_Compact_int_empty none 0 wr
        clear hz0
        go_wp2_with (first
          | (go_at_call 168; refine cSort.mono ?_; rintro e w2 ⟨rfl, rfl⟩)
          | (go_at_call 169; refine cComp.mono ?_; rintro e w3 ⟨rfl, rfl⟩)
          | fail)
        go_ret
        rw [HS.out, show Lib.compact (([] : List Int).mergeSort fun x y => decide (x ≤ y)) = [] by simp [Lib.compact, Lib.compactUpTo]]
        exact ⟨_, rfl, HO'.out, hkr⟩
      · have hnn : u5 ≠ .slice none 0 0 := by rw [hnn']; intro h; cases h
        clear hnn'
        obtain ⟨g0, cap0, rfl, hbg, hgl, hncap, hcm, hlen, hH⟩ := Lib.holds_of_ownsRow HO.out hnn
        have cSort := Tryz.slices_Sort_int g0 0 cap0 zs wr hH hgl (by omega)
        have cComp : ∀ nn os, Calls Tryz.prog 169 #[.slice (some ⟨g0, 0, none⟩) zs.length cap0] (grow (putRow (Value.int .i64) (Sort.ahead wr nn) g0 0 (zs.mergeSort fun x y => decide (x ≤ y)).toArray) os) fun e w' =>
            e = .returned (.slice (some ⟨g0, 0, none⟩) (Lib.compact (zs.mergeSort fun x y => decide (x ≤ y))).length cap0) ∧ ∃ q, w' = putRow (Value.int .i64) (Sort.ahead (grow (putRow (Value.int .i64) (Sort.ahead wr nn) g0 0 (zs.mergeSort fun x y => decide (x ≤ y)).toArray) os) q) g0 0 (Lib.compact (zs.mergeSort fun x y => decide (x ≤ y)) ++ List.replicate (zs.length - (Lib.compact (zs.mergeSort fun x y => decide (x ≤ y))).length) 0).toArray := fun nn os => by
          have hl2 : (zs.mergeSort fun x y => decide (x ≤ y)).length = zs.length := List.length_mergeSort zs
          have hH2 : Holds (Value.int .i64) (grow (putRow (Value.int .i64) (Sort.ahead wr nn) g0 0 (zs.mergeSort fun x y => decide (x ≤ y)).toArray) os) g0 0 (zs.mergeSort fun x y => decide (x ≤ y)).toArray :=
            holds_grow _ _ os g0 0 _ (by simpa [putRow, mapBlock, Sort.ahead] using hgl) (holds_putRow _ _ g0 0 _ _ (holds_ahead _ wr nn g0 0 _ hH) (by simp))
          have := Tryz.slices_Compact_int g0 0 cap0 (zs.mergeSort fun x y => decide (x ≤ y)) _ hH2 (by omega) (by omega)
          rwa [hl2] at this
        have HK := Lib.hid hkr
        clear hH hkr
        go_wp2_with (first
          | (go_at_call 168; refine cSort.mono ?_; rintro e w2 ⟨rfl, nn, os, rfl⟩)
          | (go_at_call 169; refine (cComp _ _).mono ?_; rintro e w3 ⟨rfl, q, rfl⟩)
          | fail)
        go_ret
        rw [HS.out]
        exact left_ofI HO.out HK.out
end Go.Proofs.YtcjpecdnenemaaaGreatDoor

namespace Go.Proofs.YtcjpecdnenemaaaGreatDoor
set_option linter.all false
open Go.RowKit Go.Shelf

theorem mem_compact {zs : List Int} {z : Int} (h : z ∈ Lib.compact zs) : z ∈ zs := by
  unfold Lib.compact Lib.compactUpTo at h
  rw [List.mem_map] at h
  obtain ⟨j, hj, rfl⟩ := h
  rw [List.mem_filter, List.mem_range] at hj
  have hj1 := hj.1
  have e : zs.toArray[j]! = zs[j]'(by simpa using hj1) := by simp [getElem!_pos, show j < zs.length by simpa using hj1]
  rw [e]
  exact List.getElem_mem _
theorem mem_starts {xs : List Eqv} {sort : ByteArray} {d : Int} (h : d ∈ startsS xs sort) : ∃ x ∈ xs, x.frm = d := by
  have := List.mem_mergeSort.1 (mem_compact h)
  unfold frmS at this
  rw [List.mem_map] at this
  obtain ⟨x, hx, rfl⟩ := this
  exact ⟨x, (List.mem_filter.1 hx).1, rfl⟩
theorem frm_bd {x : Eqv} (h : formB x = true) : 0 ≤ x.frm ∧ x.frm ≤ 100000 := by
  unfold formB at h
  simp only [Bool.and_eq_true, Bool.or_eq_true] at h
  rcases h.2 with h | h
  · unfold equivB at h
    simp only [Bool.and_eq_true, decide_eq_true_eq] at h
    exact inB_iff.1 h.1.1.1.2
  · unfold voidB at h
    simp only [Bool.and_eq_true, decide_eq_true_eq] at h
    omega
theorem starts_le (xs : List Eqv) (sort : ByteArray) : (startsS xs sort).length ≤ xs.length := by
  unfold startsS
  refine Nat.le_trans (Lib.compact_length_le _) ?_
  rw [List.length_mergeSort]
  exact frmS_le xs sort
/-- whether a beast of the sort takes up other than the day before -/
def turnB (xs : List Eqv) (sort : ByteArray) (known d : Int) : Bool := !(decide ((stS (inForceS xs sort d known)).1 = (stS (inForceS xs sort (d - 1) known)).1) && decide ((stS (inForceS xs sort d known)).2 = (stS (inForceS xs sort (d - 1) known)).2))
def turnsS (xs : List Eqv) (sort : ByteArray) (known : Int) : List Int := if (chkS xs).2 = 0 then (startsS xs sort).filter (turnB xs sort known) else []

set_option maxRecDepth 100000 in
set_option maxHeartbeats 3200000 in
theorem turns_any (A : Option Addr) (n c : Nat) (xs : List Eqv) (sort : ByteArray) (known : Int) (w : World) (hT : TabA w A n c xs) (hlt : n ≤ 1000000) :
    Calls Tryz.prog 54 #[.slice A n c, .string sort, .int .i64 known] w (IntRes w (turnsS xs sort known)) := by
  obtain ⟨i0, hi0, hz0, hz1, hz2⟩ := info_parts info3
  have HT := Lib.hid hT
  have hln := hT.1
  clear hT
  obtain ⟨E, hE⟩ : ∃ E, E = chkS xs := ⟨_, rfl⟩
  have HE := Lib.hid hE
  by_cases h0 : E.2 = 0
  · have h0' : (E.2 != 0) = false := by simp [h0]
    obtain ⟨zs, hzs⟩ : ∃ zs, startsS xs sort = zs := ⟨_, rfl⟩
    have HZ := Lib.hid hzs
    have HTu := Lib.hid (show turnsS xs sort known = zs.filter (turnB xs sort known) by unfold turnsS; rw [← hE, if_pos h0, hzs])
    have hle := starts_le xs sort
    rw [hzs, hln] at hle
    have HB := Lib.hid (show ∀ z ∈ zs, 0 ≤ z ∧ z ≤ 100000 by
      intro z hz
      rw [← hzs] at hz
      obtain ⟨x, hx, rfl⟩ := mem_starts hz
      exact frm_bd (chk_form (by rw [← hE]; exact h0) hx))
    clear hzs h0 hE hln
    go_enter Tryz.func54, Tryz.ntmps54
    go_wp2_with fail
    refine (check_any A n c xs _ HT.out).mono ?_
    rw [← HE.out]
    rintro e w1 ⟨rfl, hk1⟩
    go_wp2_with fail
    refine (starts_any A n c xs sort _ (HT.out.kept hk1) hlt).mono ?_
    rw [HZ.out]
    rintro e w2 ⟨v, rfl, hown2, hk2⟩
    have HO2 := Lib.hid hown2
    have HK2 := Lib.hid (hk1.trans hk2)
    obtain ⟨bA, bn, bc, rfl, hform⟩ : ∃ A' n' c', v = .slice A' n' c' ∧ n' = zs.length ∧ n' ≤ c' ∧ c' ≤ 9223372036854775807 ∧ (0 < zs.length → ∃ g, A' = some ⟨g, 0, none⟩) := by
      rcases own_form hown2 with ⟨rfl, hz⟩ | ⟨g, cap, rfl, h1, h2, h3, h4⟩
      · exact ⟨none, 0, 0, rfl, hz.symm, by omega, by omega, fun h => by omega⟩
      · exact ⟨_, _, _, rfl, rfl, h1, by simpa [maxLen] using h2, fun _ => ⟨g, rfl⟩⟩
    obtain ⟨rfl, hbc, hbm, hg⟩ := hform
    have HG := Lib.hid hg
    clear hown2 hk1 hk2 hg
    go_wp2
    go_loopw [9, 23] (fun v i wr => ∃ k : Nat, k ≤ zs.length ∧ i = .int .i64 k ∧ wr.ownsRow w2.heap.size 3 1 v ((zs.take k).filter (turnB xs sort known)).length (((zs.take k).filter (turnB xs sort known)).map (Value.int .i64)) ∧ Kept w2 wr) (fun _ i _ => zs.length - (intOf i).toNat)
    case atStart => exact ⟨0, by omega, by first | rfl | go_num, by exact ⟨rfl, .inl ⟨rfl, rfl⟩⟩, Kept.refl _⟩
    case round =>
      obtain ⟨k, hk, rfl, hown, hkr2⟩ := hrel
      have hkr : Kept w wr := HK2.out.trans hkr2
      have HO := Lib.hid hown
      have HKr := Lib.hid hkr
      have HKr2 := Lib.hid hkr2
      clear hown
      by_cases hlt' : k < zs.length
      · obtain ⟨g, rfl⟩ := HG.out (by omega)
        obtain ⟨z, hz⟩ : ∃ z, zs[k]? = some z := ⟨zs[k]'hlt', List.getElem?_eq_getElem hlt'⟩
        obtain ⟨zb1, zb2⟩ := HB.out z (List.mem_of_getElem? hz)
        have hcell : wr.cell? ⟨g, k, none⟩ = some (.int .i64 z) := by
          rw [(own_kept HO2.out hkr2).cellAt k (by omega), List.getElem?_map, hz]; rfl
        have Hz := Lib.hid hz
        have hll : ((zs.take k).filter (turnB xs sort known)).length ≤ k := by
          refine Nat.le_trans (List.length_filter_le _ _) ?_
          rw [List.length_take]; omega
        have Hll := Lib.hid hll
        have hwr : wrap64 (z - 1) = z - 1 := by unfold wrap64; omega
        obtain ⟨s1, hs1⟩ : ∃ s1, stS (inForceS xs sort z known) = s1 := ⟨_, rfl⟩
        obtain ⟨s2, hs2⟩ : ∃ s2, stS (inForceS xs sort (z - 1) known) = s2 := ⟨_, rfl⟩
        have H1 := Lib.hid (fun W h => stintsOn_any A n c xs sort z known W h hlt)
        have H2 := Lib.hid (fun W h => stintsOn_any A n c xs sort (z - 1) known W h hlt)
        rw [hs1] at H1
        rw [hs2] at H2
        have HTB := Lib.hid (show turnB xs sort known z = !(decide (s1.1 = s2.1) && decide (s1.2 = s2.2)) by unfold turnB; rw [hs1, hs2])
        clear hz hll hs1 hs2
        go_wp2_with fail
        refine (H1.out _ ((HT.out.kept HKr.out))).mono ?_
        rintro e w3 ⟨rfl, hk3⟩
        go_wp2_with fail
        refine (H2.out _ ((HT.out.kept HKr.out).kept hk3)).mono ?_
        rintro e w4 ⟨rfl, hk4⟩
        have HK4 := Lib.hid (hk3.trans hk4)
        have HO4 := Lib.hid (own_kept HO.out (hk3.trans hk4))
        obtain ⟨m, hm⟩ : ∃ m, ((zs.take k).filter (turnB xs sort known)).length = m := ⟨_, rfl⟩
        rw [hm] at HO4
        have HM := Lib.hid hm
        have HN := Lib.hid (news_of (W := w4) (cs := [.int .i64 z]) (t := 3) (m := w4.heap.size) rfl)
        have H3 := Lib.hid (one1 z)
        have hmk : m ≤ k := by rw [← hm]; exact Hll.out
        clear hk3 hk4 hm
        have hsz : w2.heap.size ≤ w4.heap.size := (HKr2.out.trans HK4.out).size
        have KK2 := Lib.hid (HKr2.out.trans HK4.out)
        by_cases hb : s1.1 = s2.1 ∧ s1.2 = s2.2
        · have HT1 := Lib.hid (show turnB xs sort known z = false by rw [HTB.out]; simp [hb.1, hb.2])
          obtain ⟨b1, b2⟩ := hb
          go_wp2
          go_roundw
          case rel =>
            refine ⟨k + 1, by omega, by go_num, ?_, KK2.out⟩
            rw [filt_no Hz.out HT1.out, HM.out]
            exact HO4.out
          case measure => simp [intOf]; omega
        · have HT1 := Lib.hid (show turnB xs sort known z = true by
            rw [HTB.out]
            by_cases b1 : s1.1 = s2.1
            · have b2 : ¬ s1.2 = s2.2 := fun b2 => hb ⟨b1, b2⟩
              simp [b2]
            · simp [b1])
          have HRow := Lib.hid (filt_yes Hz.out HT1.out)
          have hcs : ¬ s1.1 = s2.1 ∨ (s1.1 = s2.1 ∧ ¬ s1.2 = s2.2) := by
            by_cases b1 : s1.1 = s2.1
            · exact .inr ⟨b1, fun b2 => hb ⟨b1, b2⟩⟩
            · exact .inl b1
          clear hb
          rcases hcs with b1 | ⟨b1, b2⟩
          all_goals
            go_wp2_with (at_builtin; refine wpList_append_own _ rfl (.tmp 39) (.tmp 41) 55 rfl w2.heap.size 3 i0 _ 1 8 Tryz.underlying55 hi0 hz0 hz1 hz2 rfl (by decide) _ m (((zs.take k).filter (turnB xs sort known)).map (Value.int .i64)) rfl (own_kept HO4.out ((Kept.refl _).alloc _)) ⟨w4.heap.size, 0, none⟩ 1 1 [.int .i64 z] rfl rfl HN.out H3.out (by simp only [maxLen]; omega) (by omega) (by simp; omega) ?_; intro v' w6 hown6 hg6 _hx6)
            have HO6 := Lib.hid hown6
            have HG6 := Lib.hid hg6
            go_roundw
            case rel =>
              refine ⟨k + 1, by omega, by go_num, ?_, (KK2.out.alloc _).grown HG6.out (fun r hr => (HO4.out.lt r hr).1)⟩
              rw [HRow.out, List.length_append, List.map_append, HM.out]
              exact HO6.out
            case measure => simp [intOf]; omega
      · obtain rfl : k = zs.length := by omega
        have ht : zs.take zs.length = zs := List.take_length
        rw [ht] at HO
        have HO' := Lib.hid (own_base HO.out HK2.out.size)
        clear ht
        go_wp2
        go_ret
        rw [HTu.out]
        exact ⟨_, rfl, HO'.out, HKr.out⟩
  · have h0' : (E.2 != 0) = true := by simp [h0]
    have HTu := Lib.hid (show turnsS xs sort known = [] by unfold turnsS; rw [← hE, if_neg h0])
    clear h0 hE
    go_enter Tryz.func54, Tryz.ntmps54
    go_wp2_with fail
    refine (check_any A n c xs _ HT.out).mono ?_
    rw [← HE.out]
    rintro e w1 ⟨rfl, hk1⟩
    go_wp2
    go_ret
    rw [HTu.out]
    exact ⟨_, rfl, ⟨rfl, .inl ⟨rfl, rfl⟩⟩, hk1⟩
end Go.Proofs.YtcjpecdnenemaaaGreatDoor

namespace Go.Proofs.YtcjpecdnenemaaaGreatDoor
set_option linter.all false
open Go.RowKit Go.Shelf

def smpL : List ByteArray := [⟨#[49, 32, 48, 32, 101, 113, 117, 97, 108, 32, 99, 111, 119, 32, 48, 32, 49, 32, 49]⟩, ⟨#[50, 32, 48, 32, 101, 113, 117, 97, 108, 32, 115, 104, 101, 101, 112, 32, 48, 32, 49, 32, 52]⟩, ⟨#[51, 32, 48, 32, 101, 113, 117, 97, 108, 32, 99, 111, 117, 112, 108, 101, 32, 48, 32, 51, 32, 56]⟩, ⟨#[52, 32, 49, 48, 32, 101, 113, 117, 97, 108, 32, 115, 104, 101, 101, 112, 32, 49, 48, 48, 32, 49, 32, 53]⟩, ⟨#[53, 32, 50, 48, 32, 118, 111, 105, 100, 32, 52]⟩]
def smpT : List Eqv := [⟨1, 0, 0, ⟨#[99, 111, 119]⟩, 1, 1, 0⟩, ⟨2, 0, 0, ⟨#[115, 104, 101, 101, 112]⟩, 1, 4, 0⟩, ⟨3, 0, 0, ⟨#[99, 111, 117, 112, 108, 101]⟩, 3, 8, 0⟩, ⟨4, 100, 10, ⟨#[115, 104, 101, 101, 112]⟩, 1, 5, 0⟩, ⟨5, 0, 20, ⟨#[]⟩, 0, 0, 4⟩]
set_option maxRecDepth 100000 in
theorem smp_words0 : wordsB ⟨#[53, 32, 50, 48, 32, 118, 111, 105, 100, 32, 52]⟩ = [⟨#[53]⟩, ⟨#[50, 48]⟩, ⟨#[118, 111, 105, 100]⟩, ⟨#[52]⟩] := by kernel_rfl
set_option maxRecDepth 100000 in
theorem smp_read0 : readS ⟨#[53, 32, 50, 48, 32, 118, 111, 105, 100, 32, 52]⟩ = (⟨5, 0, 20, ⟨#[]⟩, 0, 0, 4⟩, 0) := by kernel_rfl
set_option maxRecDepth 100000 in
theorem smp_read1 : readS ⟨#[51, 32, 48, 32, 101, 113, 117, 97, 108, 32, 99, 111, 117, 112, 108, 101, 32, 48, 32, 51, 32, 56]⟩ = (⟨3, 0, 0, ⟨#[99, 111, 117, 112, 108, 101]⟩, 3, 8, 0⟩, 0) := by kernel_rfl
set_option maxRecDepth 100000 in
theorem smp_chk : (chkS smpT).2 = 0 := by kernel_rfl
end Go.Proofs.YtcjpecdnenemaaaGreatDoor

namespace Go.Proofs.YtcjpecdnenemaaaGreatDoor
set_option linter.all false
open Go.RowKit Go.Shelf

theorem smp_at : ∀ k, k < 5 → ∃ l x, smpL[k]? = some l ∧ smpT[k]? = some x ∧ readS l = (x, 0) ∧ l.size ≤ 1000000 ∧ x.sort.size ≤ 100 ∧ (chkS (smpT.take k ++ [x])).2 = 0
  | 0, _ => ⟨_, _, rfl, rfl, by kernel_rfl, by decide, by decide, by kernel_rfl⟩
  | 1, _ => ⟨_, _, rfl, rfl, by kernel_rfl, by decide, by decide, by kernel_rfl⟩
  | 2, _ => ⟨_, _, rfl, rfl, by kernel_rfl, by decide, by decide, by kernel_rfl⟩
  | 3, _ => ⟨_, _, rfl, rfl, by kernel_rfl, by decide, by decide, by kernel_rfl⟩
  | 4, _ => ⟨_, _, rfl, rfl, by kernel_rfl, by decide, by decide, by kernel_rfl⟩
  | k + 5, h => by omega
theorem smp_sort : ∀ x ∈ smpT, x.sort.size ≤ 9223372036854775807 := by
  intro x hx
  obtain ⟨k, hk⟩ := List.getElem?_of_mem hx
  have hlt : k < 5 := (List.getElem?_eq_some_iff.1 hk).1
  obtain ⟨l, y, _, hy, _, _, hs, _⟩ := smp_at k hlt
  rw [hk] at hy
  cases hy
  omega

set_option maxRecDepth 100000 in
set_option maxHeartbeats 1600000 in
theorem sample_any (w : World) (hE : Env w) : Calls Tryz.prog 98 #[] w fun e w' => ∃ v, (e = .returned v ∧ w'.ownsRow w.heap.size 37 7 v 5 (flat7 smpT)) ∧ Kept w w' := by
  have R0 := RowC.new w (smpL.map Value.string) 9
  have HR0 := Lib.hid R0
  have HE := Lib.hid hE
  obtain ⟨W0, hW0⟩ : ∃ W0 : World, W0 = w.alloc (.cells (smpL.map Value.string).toArray 9) := ⟨_, rfl⟩
  have hz0 : W0.heap.size = w.heap.size + 1 := by rw [hW0]; simp
  have hk0 : Kept w W0 := by rw [hW0]; exact (Kept.refl _).alloc _
  rw [← hW0] at HR0
  have HK0 := Lib.hid hk0
  simp only [smpL, List.map_cons, List.map_nil] at hW0
  have HW0 := Lib.hid hW0
  clear R0 hE hW0 hk0
  go_enter Tryz.func98, Tryz.ntmps98
  go_wp2
  rw [← HW0.out]
  go_loopw [1, 8] (fun v i wr => ∃ k : Nat, k ≤ 5 ∧ i = .int .i64 k ∧ wr.ownsRow w.heap.size 37 7 v k (flat7 (smpT.take k)) ∧ Kept W0 wr) (fun _ i _ => 5 - (intOf i).toNat)
  case atStart => exact ⟨0, by omega, by first | rfl | go_num, by exact ⟨rfl, .inl ⟨rfl, rfl⟩⟩, Kept.refl _⟩
  case round =>
    obtain ⟨k, hk, rfl, hown, hkr⟩ := hrel
    have HO := Lib.hid hown
    have HKr := Lib.hid hkr
    obtain ⟨A, c, rfl⟩ : ∃ A c, u1 = .slice A k c := by
      rcases own_form hown with ⟨e, h0⟩ | ⟨g, c, e, _⟩
      · exact ⟨none, 0, by rw [e, h0]⟩
      · exact ⟨_, c, e⟩
    have hT : TabA wr A k c (smpT.take k) := own_tabA hown (by rw [List.length_take]; simp [smpT]; omega) (fun x hx => smp_sort x (List.mem_of_mem_take hx))
    have HT := Lib.hid hT
    clear hown hT
    by_cases hlt : k < 5
    · obtain ⟨l, x, hl, hx, hr, hls, hxs, hc⟩ := smp_at k hlt
      have c0 : wr.cell? ⟨w.heap.size, k, none⟩ = some (.string l) := by
        have := HR0.out k (.string l) (by rw [List.getElem?_map, hl]; rfl)
        exact (hkr.cells _ _ (cell_lt this.1)).trans this.1
      have hRd := read_any l hls wr ((HE.out.kept HK0.out).kept hkr)
      rw [hr] at hRd
      have HRd := Lib.hid hRd
      have HC := Lib.hid hc
      have HX := Lib.hid hx
      clear hl hx hr hc hRd hkr
      unfold ofV eqV at HRd
      dsimp only at HRd
      go_wp2_with fail
      refine HRd.out.mono ?_
      rintro e w2 ⟨rfl, hk2⟩
      have HA := Lib.hid (append_ok A k c (smpT.take k) x (by omega) (by omega) HC.out (w2.alloc (boxX x)) ((HT.out.kept hk2).kept ((Kept.refl _).alloc _)))
      unfold boxX eqV at HA
      go_wp2_with fail
      refine HA.out.mono ?_
      rintro e w3 ⟨v, rfl, hown3, hk3⟩
      have KK : Kept wr w3 := (hk2.alloc _).trans hk3
      have HKK := Lib.hid KK
      have HO3 := Lib.hid hown3
      have hzz : w.heap.size ≤ w2.heap.size + 1 := by have := ((HK0.out.trans HKr.out).trans hk2).size; omega
      clear hk2 hk3 KK hown3
      go_wp2
      go_roundw
      case rel =>
        refine ⟨k + 1, by omega, by go_num, ?_, HKr.out.trans HKK.out⟩
        have h := HO3.out
        rw [show (smpT.take k ++ [x]).length = k + 1 by rw [List.length_append, HT.out.1]; rfl] at h
        rw [take_snoc' HX.out]
        exact own_base h (by simpa using hzz)
      case measure => simp [intOf]; omega
    · obtain rfl : k = 5 := by omega
      have ht : smpT.take 5 = smpT := rfl
      rw [ht] at HO
      clear ht
      go_wp2
      go_ret
      exact ⟨_, ⟨rfl, HO.out⟩, HK0.out.trans HKr.out⟩
end Go.Proofs.YtcjpecdnenemaaaGreatDoor
