/- Fits, Shown, True, OfCount, Gathered: the code's and the reference's -/
import Derived.Test.YtdeokdlkjgpffaaGreatDoorTh
namespace Go.Proofs.YtdeokdlkjgpffaaGreatDoor
set_option linter.all false
open Go.RowKit

def fitOk (m d n c : Int) : Bool := rateB m d && inB n 0 100000 && inB c 0 200000
def fitB (m d n c : Int) : Bool := fitOk m d n c && inB c (loI m n) (hiI d n)
def shOk (m d n : Int) : Bool := rateB m d && inB n 0 100000
def shL (m d n : Int) : Int := if shOk m d n = true then loI m n else 0
def shH (m d n : Int) : Int := if shOk m d n = true then hiI d n else 0
def trOk (m d c : Int) : Bool := rateB m d && inB c 0 200000
def spI (a b : Int) : Int × Int × Bool := (spL a b, spH a b, spS a b)
def trI (m d c : Int) : Int × Int × Bool := if trOk m d c = true then spI (leastOf d c) (mostOf m c) else (0, 0, false)
def ocOk (m d i dy s n x : Int) : Bool := rateB m d && countB i dy s n x
def ocI (m d i dy s n x : Int) : Int × Int × Bool := if ocOk m d i dy s n x = true then spI (leastOf d n) (mostOf m (n + x)) else (0, 0, false)
def gaI (m d i dy s n x : Int) : Int := if ocOk m d i dy s n x = true then spL (leastOf d n) (mostOf m n) else 0
theorem rateB_bd {m d : Int} (h : rateB m d = true) : (0 ≤ m ∧ m ≤ 500) ∧ (0 ≤ d ∧ d ≤ 500) := by
  unfold rateB at h
  rw [Bool.and_eq_true, inB_iff, inB_iff] at h
  exact h
theorem countB_bd {i dy s n x : Int} (h : countB i dy s n x = true) : (0 ≤ n ∧ n ≤ 100000) ∧ (0 ≤ x ∧ x ≤ 10000) := by
  unfold countB at h
  rw [Bool.and_eq_true, Bool.and_eq_true, inB_iff, inB_iff] at h
  exact ⟨h.1.2, h.2⟩
theorem inB_le {m d n c : Int} : inB c (loI m n) (hiI d n) = (decide (loI m n ≤ c) && decide (c ≤ hiI d n)) := rfl

set_option maxRecDepth 100000 in
set_option maxHeartbeats 2000000 in
theorem shown_any (m d n : Int) (w : World) :
    Calls Tryz.prog 15 #[.agg #[.int .i64 m, .int .i64 d], .int .i64 n] w fun e w' => e = .returned (.tuple #[.int .i64 (shL m d n), .int .i64 (shH m d n), .int .i64 (errI (shOk m d n))]) ∧ Kept w w' := by
  obtain ⟨W0, hW0⟩ : ∃ W0, W0 = w.alloc (.cells #[.int .i64 m, .int .i64 d] 38) := ⟨_, rfl⟩
  have k0 : Kept w W0 := by rw [hW0]; exact ((Kept.refl _).alloc _)
  have c00 : W0.cell? ⟨w.heap.size, 0, none⟩ = some (.int .i64 m) := by rw [hW0]; exact cellNew (by simp) rfl
  have c01 : W0.cell? ⟨w.heap.size, 1, none⟩ = some (.int .i64 d) := by rw [hW0]; exact cellNew (by simp) rfl
  have BR : RowKit.Hid (∀ W, Kept W0 W → W.cell? ⟨w.heap.size, 0, none⟩ = some (.int .i64 m) ∧ W.cell? ⟨w.heap.size, 1, none⟩ = some (.int .i64 d)) := Lib.hid (fun W hW => ⟨(hW.cells _ _ (cell_lt c00)).trans c00, (hW.cells _ _ (cell_lt c01)).trans c01⟩)
  have Z0 : W0.heap.size = w.heap.size + 1 := by rw [hW0]; simp
  have ZZ := Lib.hid Z0
  have HW := Lib.hid hW0
  have K0 := Lib.hid k0
  clear hW0 k0 Z0
  have kk := Kept.refl W0
  have b0 := cell_lt c00
  rcases h1 : rateB m d with _ | _
  · have H0 := Lib.hid h1
    have HS : RowKit.Hid (((.tuple #[.int .i64 (shL m d n), .int .i64 (shH m d n), .int .i64 (errI (shOk m d n))]) : Value) = .tuple #[.int .i64 0, .int .i64 0, .int .i64 1]) := Lib.hid (by simp [shL, shH, shOk, errI_true, errI_false, H0.out])
    go_enter Tryz.func15, Tryz.ntmps15
    go_upto_region 1 with (fail)
    rw [← HW.out]
    go_wp2_with (first
        | (go_at_call 33; refine (isRate_any m d _).mono ?_; rintro e w1 ⟨rfl, hk⟩; replace kk := (by first | with_reducible exact kk.trans hk | with_reducible exact (kk.alloc _).trans hk | with_reducible exact kk.drew.trans hk | with_reducible exact (kk.drew.alloc _).trans hk | with_reducible exact (kk.alloc _).drew.trans hk | with_reducible exact ((kk.alloc _).alloc _).trans hk | with_reducible exact ((kk.drew.alloc _).alloc _).trans hk | fail); obtain ⟨c00, c01⟩ := BR.out _ kk; have b0 := cell_lt c00)
        | (go_at_call 34; refine (isTrue_any n _).mono ?_; rintro e w1 ⟨rfl, hk⟩; replace kk := (by first | with_reducible exact kk.trans hk | with_reducible exact (kk.alloc _).trans hk | with_reducible exact kk.drew.trans hk | with_reducible exact (kk.drew.alloc _).trans hk | with_reducible exact (kk.alloc _).drew.trans hk | with_reducible exact ((kk.alloc _).alloc _).trans hk | with_reducible exact ((kk.drew.alloc _).alloc _).trans hk | fail); obtain ⟨c00, c01⟩ := BR.out _ kk; have b0 := cell_lt c00)
        | (go_at_call 35; refine (least_any m d n hn hn1 hm hm1 _).mono ?_; rintro e w1 ⟨rfl, hk⟩; replace kk := (by first | with_reducible exact kk.trans hk | with_reducible exact (kk.alloc _).trans hk | with_reducible exact kk.drew.trans hk | with_reducible exact (kk.drew.alloc _).trans hk | with_reducible exact (kk.alloc _).drew.trans hk | with_reducible exact ((kk.alloc _).alloc _).trans hk | with_reducible exact ((kk.drew.alloc _).alloc _).trans hk | fail); obtain ⟨c00, c01⟩ := BR.out _ kk; have b0 := cell_lt c00)
        | (go_at_call 36; refine (greatest_any m d n hn hn1 hd hd1 _).mono ?_; rintro e w1 ⟨rfl, hk⟩; replace kk := (by first | with_reducible exact kk.trans hk | with_reducible exact (kk.alloc _).trans hk | with_reducible exact kk.drew.trans hk | with_reducible exact (kk.drew.alloc _).trans hk | with_reducible exact (kk.alloc _).drew.trans hk | with_reducible exact ((kk.alloc _).alloc _).trans hk | with_reducible exact ((kk.drew.alloc _).alloc _).trans hk | fail); obtain ⟨c00, c01⟩ := BR.out _ kk; have b0 := cell_lt c00)
        | fail)
    refine bodyPost_ret (v := .tuple #[.int .i64 0, .int .i64 0, .int .i64 1]) (by simp [results, Tryz.results15, go_sem]) rfl ⟨by rw [HS.out], ?_⟩
    exact K0.out.trans (by first | with_reducible exact kk | with_reducible exact kk.alloc _ | with_reducible exact kk.drew | with_reducible exact kk.drew.alloc _ | with_reducible exact (kk.alloc _).alloc _ | fail)
  · skip
    rcases h2 : inB n 0 100000 with _ | _
    · have H0 := Lib.hid h1
      have H1 := Lib.hid h2
      have HS : RowKit.Hid (((.tuple #[.int .i64 (shL m d n), .int .i64 (shH m d n), .int .i64 (errI (shOk m d n))]) : Value) = .tuple #[.int .i64 0, .int .i64 0, .int .i64 1]) := Lib.hid (by simp [shL, shH, shOk, errI_true, errI_false, H0.out, H1.out])
      go_enter Tryz.func15, Tryz.ntmps15
      go_upto_region 1 with (fail)
      rw [← HW.out]
      go_wp2_with (first
        | (go_at_call 33; refine (isRate_any m d _).mono ?_; rintro e w1 ⟨rfl, hk⟩; replace kk := (by first | with_reducible exact kk.trans hk | with_reducible exact (kk.alloc _).trans hk | with_reducible exact kk.drew.trans hk | with_reducible exact (kk.drew.alloc _).trans hk | with_reducible exact (kk.alloc _).drew.trans hk | with_reducible exact ((kk.alloc _).alloc _).trans hk | with_reducible exact ((kk.drew.alloc _).alloc _).trans hk | fail); obtain ⟨c00, c01⟩ := BR.out _ kk; have b0 := cell_lt c00)
        | (go_at_call 34; refine (isTrue_any n _).mono ?_; rintro e w1 ⟨rfl, hk⟩; replace kk := (by first | with_reducible exact kk.trans hk | with_reducible exact (kk.alloc _).trans hk | with_reducible exact kk.drew.trans hk | with_reducible exact (kk.drew.alloc _).trans hk | with_reducible exact (kk.alloc _).drew.trans hk | with_reducible exact ((kk.alloc _).alloc _).trans hk | with_reducible exact ((kk.drew.alloc _).alloc _).trans hk | fail); obtain ⟨c00, c01⟩ := BR.out _ kk; have b0 := cell_lt c00)
        | (go_at_call 35; refine (least_any m d n hn hn1 hm hm1 _).mono ?_; rintro e w1 ⟨rfl, hk⟩; replace kk := (by first | with_reducible exact kk.trans hk | with_reducible exact (kk.alloc _).trans hk | with_reducible exact kk.drew.trans hk | with_reducible exact (kk.drew.alloc _).trans hk | with_reducible exact (kk.alloc _).drew.trans hk | with_reducible exact ((kk.alloc _).alloc _).trans hk | with_reducible exact ((kk.drew.alloc _).alloc _).trans hk | fail); obtain ⟨c00, c01⟩ := BR.out _ kk; have b0 := cell_lt c00)
        | (go_at_call 36; refine (greatest_any m d n hn hn1 hd hd1 _).mono ?_; rintro e w1 ⟨rfl, hk⟩; replace kk := (by first | with_reducible exact kk.trans hk | with_reducible exact (kk.alloc _).trans hk | with_reducible exact kk.drew.trans hk | with_reducible exact (kk.drew.alloc _).trans hk | with_reducible exact (kk.alloc _).drew.trans hk | with_reducible exact ((kk.alloc _).alloc _).trans hk | with_reducible exact ((kk.drew.alloc _).alloc _).trans hk | fail); obtain ⟨c00, c01⟩ := BR.out _ kk; have b0 := cell_lt c00)
        | fail)
      refine bodyPost_ret (v := .tuple #[.int .i64 0, .int .i64 0, .int .i64 1]) (by simp [results, Tryz.results15, go_sem]) rfl ⟨by rw [HS.out], ?_⟩
      exact K0.out.trans (by first | with_reducible exact kk | with_reducible exact kk.alloc _ | with_reducible exact kk.drew | with_reducible exact kk.drew.alloc _ | with_reducible exact (kk.alloc _).alloc _ | fail)
    · skip
      have H0 := Lib.hid h1
      have H1 := Lib.hid h2
      have HS : RowKit.Hid (((.tuple #[.int .i64 (shL m d n), .int .i64 (shH m d n), .int .i64 (errI (shOk m d n))]) : Value) = .tuple #[.int .i64 (loI m n), .int .i64 (hiI d n), .int .i64 0]) := Lib.hid (by simp [shL, shH, shOk, errI_true, errI_false, H0.out, H1.out])
      obtain ⟨⟨hm, hm1⟩, hd, hd1⟩ := rateB_bd H0.out
      obtain ⟨hn, hn1⟩ := inB_iff.1 H1.out
      go_enter Tryz.func15, Tryz.ntmps15
      go_upto_region 1 with (fail)
      rw [← HW.out]
      go_wp2_with (first
        | (go_at_call 33; refine (isRate_any m d _).mono ?_; rintro e w1 ⟨rfl, hk⟩; replace kk := (by first | with_reducible exact kk.trans hk | with_reducible exact (kk.alloc _).trans hk | with_reducible exact kk.drew.trans hk | with_reducible exact (kk.drew.alloc _).trans hk | with_reducible exact (kk.alloc _).drew.trans hk | with_reducible exact ((kk.alloc _).alloc _).trans hk | with_reducible exact ((kk.drew.alloc _).alloc _).trans hk | fail); obtain ⟨c00, c01⟩ := BR.out _ kk; have b0 := cell_lt c00)
        | (go_at_call 34; refine (isTrue_any n _).mono ?_; rintro e w1 ⟨rfl, hk⟩; replace kk := (by first | with_reducible exact kk.trans hk | with_reducible exact (kk.alloc _).trans hk | with_reducible exact kk.drew.trans hk | with_reducible exact (kk.drew.alloc _).trans hk | with_reducible exact (kk.alloc _).drew.trans hk | with_reducible exact ((kk.alloc _).alloc _).trans hk | with_reducible exact ((kk.drew.alloc _).alloc _).trans hk | fail); obtain ⟨c00, c01⟩ := BR.out _ kk; have b0 := cell_lt c00)
        | (go_at_call 35; refine (least_any m d n hn hn1 hm hm1 _).mono ?_; rintro e w1 ⟨rfl, hk⟩; replace kk := (by first | with_reducible exact kk.trans hk | with_reducible exact (kk.alloc _).trans hk | with_reducible exact kk.drew.trans hk | with_reducible exact (kk.drew.alloc _).trans hk | with_reducible exact (kk.alloc _).drew.trans hk | with_reducible exact ((kk.alloc _).alloc _).trans hk | with_reducible exact ((kk.drew.alloc _).alloc _).trans hk | fail); obtain ⟨c00, c01⟩ := BR.out _ kk; have b0 := cell_lt c00)
        | (go_at_call 36; refine (greatest_any m d n hn hn1 hd hd1 _).mono ?_; rintro e w1 ⟨rfl, hk⟩; replace kk := (by first | with_reducible exact kk.trans hk | with_reducible exact (kk.alloc _).trans hk | with_reducible exact kk.drew.trans hk | with_reducible exact (kk.drew.alloc _).trans hk | with_reducible exact (kk.alloc _).drew.trans hk | with_reducible exact ((kk.alloc _).alloc _).trans hk | with_reducible exact ((kk.drew.alloc _).alloc _).trans hk | fail); obtain ⟨c00, c01⟩ := BR.out _ kk; have b0 := cell_lt c00)
        | fail)
      go_region_with (first
        | (go_at_call 33; refine (isRate_any m d _).mono ?_; rintro e w1 ⟨rfl, hk⟩; replace kk := (by first | with_reducible exact kk.trans hk | with_reducible exact (kk.alloc _).trans hk | with_reducible exact kk.drew.trans hk | with_reducible exact (kk.drew.alloc _).trans hk | with_reducible exact (kk.alloc _).drew.trans hk | with_reducible exact ((kk.alloc _).alloc _).trans hk | with_reducible exact ((kk.drew.alloc _).alloc _).trans hk | fail); obtain ⟨c00, c01⟩ := BR.out _ kk; have b0 := cell_lt c00)
        | (go_at_call 34; refine (isTrue_any n _).mono ?_; rintro e w1 ⟨rfl, hk⟩; replace kk := (by first | with_reducible exact kk.trans hk | with_reducible exact (kk.alloc _).trans hk | with_reducible exact kk.drew.trans hk | with_reducible exact (kk.drew.alloc _).trans hk | with_reducible exact (kk.alloc _).drew.trans hk | with_reducible exact ((kk.alloc _).alloc _).trans hk | with_reducible exact ((kk.drew.alloc _).alloc _).trans hk | fail); obtain ⟨c00, c01⟩ := BR.out _ kk; have b0 := cell_lt c00)
        | (go_at_call 35; refine (least_any m d n hn hn1 hm hm1 _).mono ?_; rintro e w1 ⟨rfl, hk⟩; replace kk := (by first | with_reducible exact kk.trans hk | with_reducible exact (kk.alloc _).trans hk | with_reducible exact kk.drew.trans hk | with_reducible exact (kk.drew.alloc _).trans hk | with_reducible exact (kk.alloc _).drew.trans hk | with_reducible exact ((kk.alloc _).alloc _).trans hk | with_reducible exact ((kk.drew.alloc _).alloc _).trans hk | fail); obtain ⟨c00, c01⟩ := BR.out _ kk; have b0 := cell_lt c00)
        | (go_at_call 36; refine (greatest_any m d n hn hn1 hd hd1 _).mono ?_; rintro e w1 ⟨rfl, hk⟩; replace kk := (by first | with_reducible exact kk.trans hk | with_reducible exact (kk.alloc _).trans hk | with_reducible exact kk.drew.trans hk | with_reducible exact (kk.drew.alloc _).trans hk | with_reducible exact (kk.alloc _).drew.trans hk | with_reducible exact ((kk.alloc _).alloc _).trans hk | with_reducible exact ((kk.drew.alloc _).alloc _).trans hk | fail); obtain ⟨c00, c01⟩ := BR.out _ kk; have b0 := cell_lt c00)
        | fail)
      all_goals go_wp2
      all_goals refine bodyPost_ret (v := .tuple #[.int .i64 (loI m n), .int .i64 (hiI d n), .int .i64 0]) (by simp [results, Tryz.results15, go_sem]) rfl ⟨by rw [HS.out], ?_⟩
      all_goals exact K0.out.trans (by first | with_reducible exact kk | with_reducible exact kk.alloc _ | with_reducible exact kk.drew | with_reducible exact kk.drew.alloc _ | with_reducible exact (kk.alloc _).alloc _ | fail)

end Go.Proofs.YtdeokdlkjgpffaaGreatDoor
