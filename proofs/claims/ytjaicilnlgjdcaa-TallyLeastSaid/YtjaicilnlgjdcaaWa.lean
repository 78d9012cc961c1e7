/- the reference's Counting; SameRecounts of equal lists -/
import Derived.Test.YtjaicilnlgjdcaaVq
import Derived.BigQuiet
namespace Go.Proofs.Ytjaicilnlgjdcaa
set_option linter.all false
open Go.RowKit Go.Shelf

theorem info76 : (Try.prog.info? 76).map (fun i => (i.zero, i.size, i.bytes)) = some (some (.agg #[.int .i64 0, .int .i64 0, .int .i64 0, .int .i64 0, .int .i64 0, .int .i64 0]), 6, 48) := by kernel_rfl
theorem rc_len (x : Rcn) : (rcCells x).length = 6 := rfl
theorem rc_one (x : Rcn) : ∀ u ∈ rcCells x, u.oneCell' = true := by
  intro u hu
  simp [rcCells] at hu
  rcases hu with h | h | h | h | h | h <;> subst h <;> rfl
/-- records in memory of the call's own -/
def RecsRes (w : World) (ys : List Rcn) (e : Ending) (w' : World) : Prop := ∃ A n c, e = .returned (.slice A n c) ∧ RcA w' A n c ys ∧ (∀ a, A = some a → w.heap.size ≤ a.block) ∧ Kept w w'
theorem rc_cells {x : Rcn} {W : World} {b o : Nat} (h : ∀ j v, (rcCells x)[j]? = some v → W.cell? ⟨b, o + j, none⟩ = some v) : RcAt W b o x :=
  ⟨h 0 _ rfl, h 1 _ rfl, h 2 _ rfl, h 3 _ rfl, h 4 _ rfl, h 5 _ rfl⟩
theorem sli_recs {w : World} {A : Option Addr} {n c : Nat} {xs : List Rcn} (h : SliK 6 rcCells w A n c xs) : RcA w A n c xs :=
  ⟨h.1, h.2.1, h.2.2.1, fun hn => by
    obtain ⟨b, off, e, ht⟩ := h.2.2.2 hn
    exact ⟨b, off, e, fun i x hx => rc_cells (fun j v hv => ht i x hx j v hv)⟩⟩

set_option maxRecDepth 100000 in
set_option maxHeartbeats 2000000 in
theorem rcounting_any (A : Option Addr) (n c : Nat) (xs : List Rcn) (known : Int) (w : World) (hT : RcA w A n c xs) (hlt : n ≤ 1000000) :
    Calls Try.prog 48 #[.slice A n c, .int .i64 known] w (RecsRes w (cntS xs known)) := by
  have HT := Lib.hid hT
  have hnc := hT.2.1
  have hcm := hT.2.2.1
  clear hT
  obtain ⟨i0, hi0, hz0, hz1, hz2⟩ := info_parts info76
  go_enter Try.func48, Try.ntmps48
  go_wp2_with fail
  go_loopw [5, 6] (fun v i wr => ∃ k : Nat, k ≤ n ∧ i = .int .i64 k ∧ Kept w wr ∧ wr.ownsRow w.heap.size 76 6 v (cntS (xs.take k) known).length ((cntS (xs.take k) known).flatMap rcCells)) (fun _ i _ => n - (intOf i).toNat)
  case atStart => exact ⟨0, by omega, by first | rfl | go_num, Kept.refl _, World.ownsRow_nil _ _ _ _⟩
  case round =>
    obtain ⟨k, hk, rfl, hkr, hown⟩ := hrel
    have HOWN := Lib.hid hown
    have HKR := Lib.hid hkr
    have hzr := hkr.size
    clear hown
    by_cases hlt2 : k < n
    · obtain ⟨b, off, hA, htab⟩ := HT.out.2.2.2 (by omega)
      subst hA
      have hxl : k < xs.length := by rw [HT.out.1]; exact hlt2
      obtain ⟨x, hx⟩ : ∃ x, xs[k]? = some x := ⟨xs[k]'hxl, List.getElem?_eq_getElem hxl⟩
      have HX := Lib.hid hx
      obtain ⟨q0, q1, q2, q3, q4, q5⟩ := (htab k x hx).kept hkr
      have qb := cell_lt q0
      clear htab hx hkr
      by_cases hkn : x.kn ≤ known
      · have hc0 : (cntS (xs.take (k + 1)) known) = cntS (xs.take k) known ++ [x] := filt_yes HX.out (by simpa using hkn)
        have hclen : (cntS (xs.take k) known).length ≤ k := by
          have := List.length_filter_le (fun x : Rcn => decide (x.kn ≤ known)) (xs.take k)
          unfold cntS
          rw [List.length_take] at this
          omega
        have HC0 := Lib.hid hc0
        have HCL := Lib.hid hclen
        clear hc0 hclen
        have HN3 := Lib.hid (RowC.new wr (rcCells x) 76)
        have HO3 := Lib.hid (own_kept HOWN.out ((Kept.refl wr).alloc (.cells (rcCells x).toArray 76)))
        have HA1 : RowKit.Hid (∀ j u, (rcCells x)[j]? = some u → (wr.alloc (.cells (rcCells x).toArray 76)).cell? ((⟨wr.heap.size, 0, none⟩ : Addr).add j) = some u) := Lib.hid (fun j u hu => by
          have e : (⟨wr.heap.size, 0, none⟩ : Addr).add j = ⟨wr.heap.size, j, none⟩ := by simp [Addr.add]; try omega
          rw [e]
          exact (HN3.out j u hu).1)
        have HA2 : RowKit.Hid (∀ u ∈ rcCells x, u.oneCell' = true) := Lib.hid (rc_one x)
        have HA3 : RowKit.Hid ((cntS (xs.take k) known).length + 1 ≤ maxLen) := Lib.hid (by have := HCL.out; unfold maxLen; omega)
        have HA4 : RowKit.Hid (((cntS (xs.take k) known).length + 1) * 48 ≤ 140737488355328) := Lib.hid (by have := HCL.out; omega)
        have HA5 : RowKit.Hid (w.heap.size ≤ (wr.alloc (.cells (rcCells x).toArray 76)).heap.size) := Lib.hid (by simp; omega)
        go_wp2_with (at_builtin; refine wpList_append_own _ rfl (.tmp 20) (.tmp 25) 56 rfl w.heap.size 76 i0 (.agg #[.int .i64 0, .int .i64 0, .int .i64 0, .int .i64 0, .int .i64 0, .int .i64 0]) 6 48 Try.underlying56 hi0 hz0 hz1 hz2 rfl (by decide) _ (cntS (xs.take k) known).length _ rfl HO3.out ⟨wr.heap.size, 0, none⟩ 1 1 (rcCells x) rfl rfl HA1.out HA2.out HA3.out HA4.out HA5.out ?_; intro v' w4 hown' hgrow _; obtain ⟨g', cap', rfl⟩ := ownsRow_succ hown'; have HO4 := Lib.hid hown'; have HG4 := Lib.hid hgrow; clear hown' hgrow)
        go_roundw
        case rel =>
          refine ⟨k + 1, by omega, by first | rfl | go_num, ?_, ?_⟩
          · exact (HKR.out.trans ((Kept.refl _).alloc _)).grown HG4.out (fun j ej => own_row HO3.out j ej)
          · rw [HC0.out, List.flatMap_append, List.length_append]
            simpa using HO4.out
        case measure => simp [intOf]; omega
      · have hc0 : cntS (xs.take (k + 1)) known = cntS (xs.take k) known := filt_no HX.out (by simpa using hkn)
        have HC0 := Lib.hid hc0
        clear hc0
        go_wp2
        go_roundw
        case rel => exact ⟨k + 1, by omega, by first | rfl | go_num, HKR.out, by rw [HC0.out]; exact HOWN.out⟩
        case measure => simp [intOf]; omega
    · obtain rfl : k = n := by omega
      have htk : xs.take k = xs := List.take_of_length_le (by rw [HT.out.1]; exact Nat.le_refl _)
      have hown := HOWN.out
      rw [htk] at hown
      obtain ⟨A', c', rfl, hs'⟩ := own_outK rc_len (by decide) hown
      have HS' := Lib.hid hs'
      have HFAR : RowKit.Hid (∀ a, A' = some a → w.heap.size ≤ a.block) := Lib.hid (fun a ha => by subst ha; exact own_row hown a.block rfl)
      clear hown hs' htk hkr
      go_wp2
      go_ret
      exact ⟨_, _, _, rfl, sli_recs HS'.out, HFAR.out, HKR.out⟩

set_option maxRecDepth 100000 in
set_option maxHeartbeats 2000000 in
theorem rsameRecs (A : Option Addr) (n c : Nat) (B : Option Addr) (m d : Nat) (xs : List Rcn) (w : World) (hx : RcA w A n c xs) (hy : RcA w B m d xs) :
    Calls Try.prog 46 #[.slice A n c, .slice B m d] w fun e w' => e = .returned (.bool true) ∧ Kept w w' := by
  have hnm : n = m := by rw [← hx.1, ← hy.1]
  subst hnm
  have HX := Lib.hid hx
  have HY := Lib.hid hy
  have hnc := hx.2.1
  have hmc := hy.2.1
  have hc := hx.2.2.1
  have hd := hy.2.2.1
  clear hx hy
  go_enter Try.func46, Try.ntmps46
  go_wp2_with fail
  go_loopw [5] (fun i w1 => ∃ k : Nat, k ≤ n ∧ i = .int .i64 k ∧ Kept w w1) (fun i _ => n - (intOf i).toNat)
  case atStart => exact ⟨0, by omega, by first | rfl | go_num, Kept.refl _⟩
  case round =>
    obtain ⟨k, hk, rfl, hkw⟩ := hrel
    by_cases hlt : k < n
    · obtain ⟨b, off, hA, hcx⟩ := HX.out.2.2.2 (by omega)
      obtain ⟨b2, off2, hB, hcy⟩ := HY.out.2.2.2 (by omega)
      subst hA hB
      obtain ⟨x, hx⟩ : ∃ x, xs[k]? = some x := ⟨xs[k]'(by rw [HX.out.1]; exact hlt), List.getElem?_eq_getElem (by rw [HX.out.1]; exact hlt)⟩
      obtain ⟨q0, q1, q2, q3, q4, q5⟩ := (hcx k x hx).kept hkw
      obtain ⟨p0, p1, p2, p3, p4, p5⟩ := (hcy k x hx).kept hkw
      clear hcx hcy hx
      have hi0 : (0 : Int) ≤ (k : Int) := by omega
      have hi1 : (k : Int) < (n : Int) := by omega
      go_wp2
      go_quiet (fail)
      go_wp2
      go_roundw
      case rel => exact ⟨k + 1, by omega, by go_num, by first | exact hkw | exact hkw.drewN _ | exact hkw.drew⟩
      case measure => simp [intOf]; omega
    · obtain rfl : k = n := by omega
      go_wp2
      go_ret
      exact ⟨rfl, hkw⟩
end Go.Proofs.Ytjaicilnlgjdcaa
