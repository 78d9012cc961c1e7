/- the reference's Narrower and Sum -/
import Derived.Test.YtjaicilnlgjdcaaVl
import Derived.Test.YtjaicilnlgjdcaaVd
import Derived.Test.YtjaicilnlgjdcaaVa
namespace Go.Proofs.Ytjaicilnlgjdcaa
set_option linter.all false
open Go.RowKit

set_option maxRecDepth 100000 in
theorem rnarrower_any (m d m2 d2 : Int) (w : World) :
    Calls Try.prog 56 #[.agg #[.int .i64 m, .int .i64 d], .agg #[.int .i64 m2, .int .i64 d2]] w fun e w' => e = .returned (.bool (narB m d m2 d2)) ∧ Kept w w' := by
  obtain ⟨W0, hW0⟩ : ∃ W0, W0 = (w.alloc (.cells #[.int .i64 m, .int .i64 d] 23)).alloc (.cells #[.int .i64 m2, .int .i64 d2] 23) := ⟨_, rfl⟩
  have k0 : Kept w W0 := by rw [hW0]; exact (((Kept.refl _).alloc _).alloc _)
  have c00 : W0.cell? ⟨w.heap.size, 0, none⟩ = some (.int .i64 m) := by rw [hW0]; exact cellOld _ (cellNew (by simp) rfl)
  have c01 : W0.cell? ⟨w.heap.size, 1, none⟩ = some (.int .i64 d) := by rw [hW0]; exact cellOld _ (cellNew (by simp) rfl)
  have c10 : W0.cell? ⟨w.heap.size + 1, 0, none⟩ = some (.int .i64 m2) := by rw [hW0]; exact cellNew (by simp) rfl
  have c11 : W0.cell? ⟨w.heap.size + 1, 1, none⟩ = some (.int .i64 d2) := by rw [hW0]; exact cellNew (by simp) rfl
  have BR : RowKit.Hid (∀ W, Kept W0 W → W.cell? ⟨w.heap.size, 0, none⟩ = some (.int .i64 m) ∧ W.cell? ⟨w.heap.size, 1, none⟩ = some (.int .i64 d) ∧ W.cell? ⟨w.heap.size + 1, 0, none⟩ = some (.int .i64 m2) ∧ W.cell? ⟨w.heap.size + 1, 1, none⟩ = some (.int .i64 d2)) := Lib.hid (fun W hW => ⟨(hW.cells _ _ (cell_lt c00)).trans c00, (hW.cells _ _ (cell_lt c01)).trans c01, (hW.cells _ _ (cell_lt c10)).trans c10, (hW.cells _ _ (cell_lt c11)).trans c11⟩)
  have Z0 : W0.heap.size = w.heap.size + 1 + 1 := by rw [hW0]; simp
  have ZZ := Lib.hid Z0
  have HW := Lib.hid hW0
  have K0 := Lib.hid k0
  clear hW0 k0 Z0
  have kk := Kept.refl W0
  have b0 := cell_lt c00
  have b1 := cell_lt c10
  obtain ⟨p, hp⟩ : ∃ p, p = rateB m d := ⟨_, rfl⟩
  obtain ⟨q, hq⟩ : ∃ q, q = rateB m2 d2 := ⟨_, rfl⟩
  have HA : RowKit.Hid (∀ W, Calls Try.prog 21 #[.agg #[.int .i64 m, .int .i64 d]] W fun e w' => e = .returned (.int .i64 (errI p)) ∧ Kept W w') := Lib.hid (fun W => by rw [hp]; exact rrate_any m d W)
  have HB : RowKit.Hid (∀ W, Calls Try.prog 21 #[.agg #[.int .i64 m2, .int .i64 d2]] W fun e w' => e = .returned (.int .i64 (errI q)) ∧ Kept W w') := Lib.hid (fun W => by rw [hq]; exact rrate_any m2 d2 W)
  cases p
  · have HS : RowKit.Hid (narB m d m2 d2 = false) := Lib.hid (by simp [narB, ← hp])
    rw [errI_false] at HA
    clear hp hq
    go_enter Try.func56, Try.ntmps56
    go_upto_region 1 with (fail)
    rw [← HW.out]
    go_wp2_with (first
        | (go_at_call 21; (with_reducible refine (HA.out _).mono ?_); rintro e w1 ⟨rfl, hk⟩; replace kk := (by first | with_reducible exact kk.trans hk | with_reducible exact (kk.alloc _).trans hk | with_reducible exact kk.drew.trans hk | with_reducible exact (kk.drew.alloc _).trans hk | with_reducible exact (kk.alloc _).drew.trans hk | with_reducible exact ((kk.alloc _).alloc _).trans hk | with_reducible exact ((kk.drew.alloc _).alloc _).trans hk | fail); obtain ⟨c00, c01, c10, c11⟩ := BR.out _ kk; have b0 := cell_lt c00; have b1 := cell_lt c10)
        | fail)
    go_ret
    exact ⟨ret_bool HS.out.symm, K0.out.trans (by first | with_reducible exact kk | with_reducible exact kk.alloc _ | with_reducible exact kk.drew | with_reducible exact kk.drew.alloc _ | with_reducible exact (kk.alloc _).alloc _ | fail)⟩
  · rw [errI_true] at HA
    cases q
    · have HS : RowKit.Hid (narB m d m2 d2 = false) := Lib.hid (by simp [narB, ← hq])
      rw [errI_false] at HB
      clear hp hq
      go_enter Try.func56, Try.ntmps56
      go_upto_region 1 with (fail)
      rw [← HW.out]
      go_wp2_with (first
        | (go_at_call 21; (with_reducible refine (HA.out _).mono ?_); rintro e w1 ⟨rfl, hk⟩; replace kk := (by first | with_reducible exact kk.trans hk | with_reducible exact (kk.alloc _).trans hk | with_reducible exact kk.drew.trans hk | with_reducible exact (kk.drew.alloc _).trans hk | with_reducible exact (kk.alloc _).drew.trans hk | with_reducible exact ((kk.alloc _).alloc _).trans hk | with_reducible exact ((kk.drew.alloc _).alloc _).trans hk | fail); obtain ⟨c00, c01, c10, c11⟩ := BR.out _ kk; have b0 := cell_lt c00; have b1 := cell_lt c10)
        | (go_at_call 21; (with_reducible refine (HB.out _).mono ?_); rintro e w1 ⟨rfl, hk⟩; replace kk := (by first | with_reducible exact kk.trans hk | with_reducible exact (kk.alloc _).trans hk | with_reducible exact kk.drew.trans hk | with_reducible exact (kk.drew.alloc _).trans hk | with_reducible exact (kk.alloc _).drew.trans hk | with_reducible exact ((kk.alloc _).alloc _).trans hk | with_reducible exact ((kk.drew.alloc _).alloc _).trans hk | fail); obtain ⟨c00, c01, c10, c11⟩ := BR.out _ kk; have b0 := cell_lt c00; have b1 := cell_lt c10)
        | fail)
      go_ret
      exact ⟨ret_bool HS.out.symm, K0.out.trans (by first | with_reducible exact kk | with_reducible exact kk.alloc _ | with_reducible exact kk.drew | with_reducible exact kk.drew.alloc _ | with_reducible exact (kk.alloc _).alloc _ | fail)⟩
    · rw [errI_true] at HB
      by_cases h : m ≤ m2
      · have HS : RowKit.Hid (narB m d m2 d2 = decide (d ≤ d2)) := Lib.hid (by simp [narB, ← hp, ← hq, h])
        clear hp hq
        go_enter Try.func56, Try.ntmps56
        go_upto_region 1 with (fail)
        rw [← HW.out]
        go_wp2_with (first
        | (go_at_call 21; (with_reducible refine (HA.out _).mono ?_); rintro e w1 ⟨rfl, hk⟩; replace kk := (by first | with_reducible exact kk.trans hk | with_reducible exact (kk.alloc _).trans hk | with_reducible exact kk.drew.trans hk | with_reducible exact (kk.drew.alloc _).trans hk | with_reducible exact (kk.alloc _).drew.trans hk | with_reducible exact ((kk.alloc _).alloc _).trans hk | with_reducible exact ((kk.drew.alloc _).alloc _).trans hk | fail); obtain ⟨c00, c01, c10, c11⟩ := BR.out _ kk; have b0 := cell_lt c00; have b1 := cell_lt c10)
        | (go_at_call 21; (with_reducible refine (HB.out _).mono ?_); rintro e w1 ⟨rfl, hk⟩; replace kk := (by first | with_reducible exact kk.trans hk | with_reducible exact (kk.alloc _).trans hk | with_reducible exact kk.drew.trans hk | with_reducible exact (kk.drew.alloc _).trans hk | with_reducible exact (kk.alloc _).drew.trans hk | with_reducible exact ((kk.alloc _).alloc _).trans hk | with_reducible exact ((kk.drew.alloc _).alloc _).trans hk | fail); obtain ⟨c00, c01, c10, c11⟩ := BR.out _ kk; have b0 := cell_lt c00; have b1 := cell_lt c10)
        | fail)
        go_ret
        exact ⟨ret_bool HS.out.symm, K0.out.trans (by first | with_reducible exact kk | with_reducible exact kk.alloc _ | with_reducible exact kk.drew | with_reducible exact kk.drew.alloc _ | with_reducible exact (kk.alloc _).alloc _ | fail)⟩
      · have HS : RowKit.Hid (narB m d m2 d2 = false) := Lib.hid (by simp [narB, h])
        clear hp hq
        go_enter Try.func56, Try.ntmps56
        go_upto_region 1 with (fail)
        rw [← HW.out]
        go_wp2_with (first
        | (go_at_call 21; (with_reducible refine (HA.out _).mono ?_); rintro e w1 ⟨rfl, hk⟩; replace kk := (by first | with_reducible exact kk.trans hk | with_reducible exact (kk.alloc _).trans hk | with_reducible exact kk.drew.trans hk | with_reducible exact (kk.drew.alloc _).trans hk | with_reducible exact (kk.alloc _).drew.trans hk | with_reducible exact ((kk.alloc _).alloc _).trans hk | with_reducible exact ((kk.drew.alloc _).alloc _).trans hk | fail); obtain ⟨c00, c01, c10, c11⟩ := BR.out _ kk; have b0 := cell_lt c00; have b1 := cell_lt c10)
        | (go_at_call 21; (with_reducible refine (HB.out _).mono ?_); rintro e w1 ⟨rfl, hk⟩; replace kk := (by first | with_reducible exact kk.trans hk | with_reducible exact (kk.alloc _).trans hk | with_reducible exact kk.drew.trans hk | with_reducible exact (kk.drew.alloc _).trans hk | with_reducible exact (kk.alloc _).drew.trans hk | with_reducible exact ((kk.alloc _).alloc _).trans hk | with_reducible exact ((kk.drew.alloc _).alloc _).trans hk | fail); obtain ⟨c00, c01, c10, c11⟩ := BR.out _ kk; have b0 := cell_lt c00; have b1 := cell_lt c10)
        | fail)
        go_ret
        exact ⟨ret_bool HS.out.symm, K0.out.trans (by first | with_reducible exact kk | with_reducible exact kk.alloc _ | with_reducible exact kk.drew | with_reducible exact kk.drew.alloc _ | with_reducible exact (kk.alloc _).alloc _ | fail)⟩

/-- intervals: all valid, all with numbers, the sums of their ends -/
def ivOk (l : List Iv) : Bool := l.all (fun x => validB x.lo x.hi x.so)
def ivSo (l : List Iv) : Bool := l.all (fun x => x.so)
def ivLo (l : List Iv) : Int := (l.map Iv.lo).sum
def ivHi (l : List Iv) : Int := (l.map Iv.hi).sum
def sumX (l : List Iv) : (Int × Int × Bool) × Int :=
  if 200 < l.length then ((0, 0, false), 2) else if ivOk l = true then (if ivSo l = true then (if 100000000 < ivHi l then ((0, 0, false), 2) else (spI (ivLo l) (ivHi l), 0)) else ((0, 0, false), 0)) else ((0, 0, false), 1)
theorem iv_snoc {xs : List Iv} {k : Nat} {x : Iv} (h : xs[k]? = some x) :
    ivOk (xs.take (k + 1)) = (ivOk (xs.take k) && validB x.lo x.hi x.so) ∧ ivSo (xs.take (k + 1)) = (ivSo (xs.take k) && x.so) ∧ ivLo (xs.take (k + 1)) = ivLo (xs.take k) + x.lo ∧ ivHi (xs.take (k + 1)) = ivHi (xs.take k) + x.hi := by
  have e := take_snoc' h
  unfold ivOk ivSo ivLo ivHi
  rw [e]
  simp
theorem iv_bad {xs : List Iv} {k : Nat} {x : Iv} (h : xs[k]? = some x) (hb : validB x.lo x.hi x.so = false) : ivOk xs = false := by
  unfold ivOk
  rw [List.all_eq_false]
  exact ⟨x, List.mem_of_getElem? h, by simp [hb]⟩
theorem iv_bd : ∀ (l : List Iv), ivOk l = true → 0 ≤ ivLo l ∧ ivLo l ≤ l.length * 100000000 ∧ 0 ≤ ivHi l ∧ ivHi l ≤ l.length * 100000000 ∧ ivLo l ≤ ivHi l
  | [], _ => by simp [ivLo, ivHi]
  | x :: l, h => by
    unfold ivOk at h
    rw [List.all_cons, Bool.and_eq_true] at h
    have h1 := valid_bd h.1
    have h2 := iv_bd l h.2
    unfold ivLo ivHi at h2 ⊢
    simp only [List.map_cons, List.sum_cons, List.length_cons]
    push_cast
    omega

set_option maxRecDepth 100000 in
set_option maxHeartbeats 2000000 in
theorem rsum_any (A : Option Addr) (n c : Nat) (xs : List Iv) (w : World) (hT : SliK 3 ivCells w A n c xs) (hlt : n ≤ 1000000) :
    Calls Try.prog 32 #[.slice A n c] w fun e w' => e = .returned (.tuple #[.agg #[.int .i64 ((sumX xs).1).1, .int .i64 ((sumX xs).1).2.1, .bool ((sumX xs).1).2.2], .int .i64 (sumX xs).2]) ∧ Kept w w' := by
  have HT := Lib.hid hT
  have hnc := hT.2.1
  have hcm := hT.2.2.1
  clear hT
  have R0 := Lib.hid (RowC.new w [.int .i64 0, .int .i64 0, .bool false] 34)
  by_cases h200 : 200 < n
  · have HS : RowKit.Hid (sumX xs = ((0, 0, false), 2)) := Lib.hid (by rw [sumX, if_pos (by rw [HT.out.1]; exact h200)])
    rw [HS.out]
    go_enter Try.func32, Try.ntmps32
    go_wp2
    refine bodyPost_ret (v := .tuple #[.agg #[.int .i64 0, .int .i64 0, .bool false], .int .i64 2]) (by simp [results, Try.results32, go_sem]) rfl ⟨rfl, ?_⟩
    exact (Kept.refl _).alloc _
  · go_enter Try.func32, Try.ntmps32
    go_wp2_with fail
    go_loopw [4, 5, 6, 7] (fun sa sb ss i wr => ∃ k : Nat, k ≤ n ∧ i = .int .i64 k ∧ sa = .int .i64 (ivLo (xs.take k)) ∧ sb = .int .i64 (ivHi (xs.take k)) ∧ ss = .bool (ivSo (xs.take k)) ∧ ivOk (xs.take k) = true ∧ Kept (w.alloc (.cells #[.int .i64 0, .int .i64 0, .bool false] 34)) wr) (fun _ _ _ i _ => n - (intOf i).toNat)
    case atStart => exact ⟨0, by omega, by first | rfl | go_num, rfl, rfl, rfl, rfl, Kept.refl _⟩
    case round =>
      obtain ⟨k, hk, rfl, rfl, rfl, rfl, hok, hkr⟩ := hrel
      have hbd := iv_bd _ hok
      have hlk : (xs.take k).length ≤ 200 := by rw [List.length_take]; omega
      obtain ⟨sa, hsa⟩ : ∃ sa, sa = ivLo (xs.take k) := ⟨_, rfl⟩
      obtain ⟨sb, hsb⟩ : ∃ sb, sb = ivHi (xs.take k) := ⟨_, rfl⟩
      obtain ⟨ss, hss⟩ : ∃ ss, ss = ivSo (xs.take k) := ⟨_, rfl⟩
      rw [← hsa, ← hsb] at hbd
      rw [← hsa, ← hsb, ← hss]
      have HSA := Lib.hid hsa
      have HSB := Lib.hid hsb
      have HSS := Lib.hid hss
      have HOK := Lib.hid hok
      have hb2 : 0 ≤ sa ∧ sa ≤ 20000000000 ∧ 0 ≤ sb ∧ sb ≤ 20000000000 ∧ sa ≤ sb := by omega
      clear hsa hsb hss hok hbd hlk
      have kw : Kept w wr := ((Kept.refl _).alloc _).trans hkr
      have RR := Lib.hid (R0.out.kept hkr)
      by_cases hlt2 : k < n
      · obtain ⟨b, off, hA, htab⟩ := HT.out.2.2.2 (by omega)
        subst hA
        have hxl : k < xs.length := by rw [HT.out.1]; exact hlt2
        obtain ⟨x, hx⟩ : ∃ x, xs[k]? = some x := ⟨xs[k]'hxl, List.getElem?_eq_getElem hxl⟩
        have HX := Lib.hid hx
        have q0 := (kw.cells _ _ (cell_lt (htab k x hx 0 _ rfl))).trans (htab k x hx 0 _ rfl)
        have q1 := (kw.cells _ _ (cell_lt (htab k x hx 1 _ rfl))).trans (htab k x hx 1 _ rfl)
        have q2 := (kw.cells _ _ (cell_lt (htab k x hx 2 _ rfl))).trans (htab k x hx 2 _ rfl)
        simp only [Nat.add_zero] at q0
        have lq := cell_lt q0
        clear htab hx
        obtain ⟨xl, hxl0⟩ : ∃ xl, x.lo = xl := ⟨_, rfl⟩
        obtain ⟨xh, hxh0⟩ : ∃ xh, x.hi = xh := ⟨_, rfl⟩
        obtain ⟨xo, hxo0⟩ : ∃ xo, x.so = xo := ⟨_, rfl⟩
        rw [hxl0] at q0
        rw [hxh0] at q1
        rw [hxo0] at q2
        have HXX := Lib.hid (show x.lo = xl ∧ x.hi = xh ∧ x.so = xo from ⟨hxl0, hxh0, hxo0⟩)
        clear hxl0 hxh0 hxo0
        rcases hv : validB xl xh xo with _ | _
        · have HV := Lib.hid hv
          have HS : RowKit.Hid (sumX xs = ((0, 0, false), 1)) := Lib.hid (by
            have := iv_bad HX.out (by rw [HXX.out.1, HXX.out.2.1, HXX.out.2.2]; exact HV.out)
            rw [sumX, if_neg (by rw [HT.out.1]; omega), if_neg (by rw [this]; simp)])
          clear hv
          go_wp2_with (go_at_call 83; refine (rvalid_b _ _ _ _ HV.out _).mono ?_; rintro e w3 ⟨rfl, hk3⟩; obtain ⟨⟨g0, f0⟩, ⟨g1, f1⟩, g2, f2⟩ := (⟨RR.out.kept hk3 0 _ rfl, RR.out.kept hk3 1 _ rfl, RR.out.kept hk3 2 _ rfl⟩ : (_ ∧ _) ∧ (_ ∧ _) ∧ (_ ∧ _)))
          refine bodyPost_ret (v := .tuple #[.agg #[.int .i64 0, .int .i64 0, .bool false], .int .i64 1]) (by simp [results, Try.results32, go_sem, g0, g1, g2]) rfl ⟨by rw [HS.out], ?_⟩
          exact (((kw.trans hk3).setCell (by simp; try omega) _).setCell (by simp; try omega) _).setCell (by simp; try omega) _
        · have HV := Lib.hid hv
          have hvb := valid_bd hv
          clear hv
          have HN : RowKit.Hid (ivOk (xs.take (k + 1)) = true ∧ ivSo (xs.take (k + 1)) = (ss && xo) ∧ ivLo (xs.take (k + 1)) = sa + xl ∧ ivHi (xs.take (k + 1)) = sb + xh) := Lib.hid (by
            obtain ⟨e1, e2, e3, e4⟩ := iv_snoc HX.out
            rw [e1, e2, e3, e4, HOK.out, HSA.out, HSB.out, HSS.out, HXX.out.1, HXX.out.2.1, HXX.out.2.2, HV.out]
            exact ⟨rfl, rfl, rfl, rfl⟩)
          have hw1 : IntKind.i64.wrap (sa + xl) = sa + xl := IntWalk.i64_in _ (by omega)
          have hw2 : IntKind.i64.wrap (sb + xh) = sb + xh := IntWalk.i64_in _ (by omega)
          cases ss
          all_goals
            go_wp2_with (go_at_call 83; refine (rvalid_b _ _ _ _ HV.out _).mono ?_; rintro e w3 ⟨rfl, hk3⟩; have y0 := (hk3.cells _ _ lq).trans q0; have y1 := (hk3.cells _ _ lq).trans q1; have y2 := (hk3.cells _ _ lq).trans q2)
            go_roundw
            case rel => exact ⟨k + 1, by omega, by go_num, by rw [HN.out.2.2.1], by rw [HN.out.2.2.2], by rw [HN.out.2.1]; rfl, HN.out.1, hkr.trans hk3⟩
            case measure => simp [intOf]; omega
      · obtain rfl : k = n := by omega
        have htk : xs.take k = xs := List.take_of_length_le (by rw [HT.out.1]; exact Nat.le_refl _)
        rw [htk] at HSA HSB HSS HOK
        clear htk
        obtain ⟨⟨g0, f0⟩, ⟨g1, f1⟩, g2, f2⟩ := (⟨RR.out 0 _ rfl, RR.out 1 _ rfl, RR.out 2 _ rfl⟩ : (_ ∧ _) ∧ (_ ∧ _) ∧ (_ ∧ _))
        cases ss
        · have HS : RowKit.Hid (sumX xs = ((0, 0, false), 0)) := Lib.hid (by rw [sumX, if_neg (by rw [HT.out.1]; omega), if_pos HOK.out, if_neg (by rw [← HSS.out]; simp)])
          go_wp2
          refine bodyPost_ret (v := .tuple #[.agg #[.int .i64 0, .int .i64 0, .bool false], .int .i64 0]) (by simp [results, Try.results32, go_sem, g0, g1, g2]) rfl ⟨by rw [HS.out], ?_⟩
          exact ((kw.setCell (by simp; try omega) _).setCell (by simp; try omega) _).setCell (by simp; try omega) _
        · by_cases hbig : 100000000 < sb
          · have HS : RowKit.Hid (sumX xs = ((0, 0, false), 2)) := Lib.hid (by rw [sumX, if_neg (by rw [HT.out.1]; omega), if_pos HOK.out, if_pos HSS.out.symm, if_pos (by rw [← HSB.out]; exact hbig)])
            go_wp2
            refine bodyPost_ret (v := .tuple #[.agg #[.int .i64 0, .int .i64 0, .bool false], .int .i64 2]) (by simp [results, Try.results32, go_sem, g0, g1, g2]) rfl ⟨by rw [HS.out], ?_⟩
            exact ((kw.setCell (by simp; try omega) _).setCell (by simp; try omega) _).setCell (by simp; try omega) _
          · obtain ⟨y0, y1, y2, hy⟩ : ∃ y0 y1 y2, spI sa sb = (y0, y1, y2) := ⟨_, _, _, rfl⟩
            have HS : RowKit.Hid (sumX xs = ((y0, y1, y2), 0)) := Lib.hid (by rw [sumX, if_neg (by rw [HT.out.1]; omega), if_pos HOK.out, if_pos HSS.out.symm, if_neg (by rw [← HSB.out]; exact hbig), ← HSA.out, ← HSB.out, hy])
            have H72 : RowKit.Hid (∀ W, Calls Try.prog 72 #[.int .i64 sa, .int .i64 sb] W fun e w' => e = .returned (.agg #[.int .i64 y0, .int .i64 y1, .bool y2]) ∧ Kept W w') := Lib.hid (fun W => by
              have := span_any sa sb W
              unfold spI at hy
              simp only [Prod.mk.injEq] at hy
              rw [hy.1, hy.2.1, hy.2.2] at this
              exact this)
            clear hy
            go_wp2_with (go_at_call 72; refine (H72.out _).mono ?_; rintro e w3 ⟨rfl, hk3⟩; obtain ⟨⟨g0, f0⟩, ⟨g1, f1⟩, g2, f2⟩ := (⟨RR.out.kept hk3 0 _ rfl, RR.out.kept hk3 1 _ rfl, RR.out.kept hk3 2 _ rfl⟩ : (_ ∧ _) ∧ (_ ∧ _) ∧ (_ ∧ _)))
            refine bodyPost_ret (v := .tuple #[.agg #[.int .i64 y0, .int .i64 y1, .bool y2], .int .i64 0]) (by simp [results, Try.results32, go_sem, g0, g1, g2]) rfl ⟨by rw [HS.out], ?_⟩
            exact (((kw.trans hk3).setCell (by simp; try omega) _).setCell (by simp; try omega) _).setCell (by simp; try omega) _

end Go.Proofs.Ytjaicilnlgjdcaa
