/- TallyIntervals -/
import Derived.Test.YtjaicilnlgjdcaaVq
import Derived.Test.YtjaicilnlgjdcaaUl
import Derived.Test.YtjaicilnlgjdcaaVl
import Derived.Deep.RegionHeld3
namespace Go.Proofs.Ytjaicilnlgjdcaa
set_option linter.all false
open Go.RowKit

set_option maxRecDepth 100000 in
set_option maxHeartbeats 4000000 in
theorem intervalsLaw_any (a b : Int) (s : Bool) (c d : Int) (t : Bool) (A : Option Addr) (n cp : Nat) (xs : List Iv) (w : World) (hT : SliK 3 ivCells w A n cp xs) :
    Calls Try.prog 4 #[.agg #[.int .i64 a, .int .i64 b, .bool s], .agg #[.int .i64 c, .int .i64 d, .bool t], .slice A n cp] w fun e w' => e = .returned (.bool true) ∧ Kept w w' := by
  have hnc := hT.2.1
  have hcm := hT.2.2.1
  have HT := Lib.hid hT
  clear hT
  obtain ⟨W0, hW0⟩ : ∃ W0, W0 = (w.alloc (.cells #[.int .i64 a, .int .i64 b, .bool s] 34)).alloc (.cells #[.int .i64 c, .int .i64 d, .bool t] 34) := ⟨_, rfl⟩
  have k0 : Kept w W0 := by rw [hW0]; exact (((Kept.refl _).alloc _).alloc _)
  have c00 : W0.cell? ⟨w.heap.size, 0, none⟩ = some (.int .i64 a) := by rw [hW0]; exact cellOld _ (cellNew (by simp) rfl)
  have c01 : W0.cell? ⟨w.heap.size, 1, none⟩ = some (.int .i64 b) := by rw [hW0]; exact cellOld _ (cellNew (by simp) rfl)
  have c02 : W0.cell? ⟨w.heap.size, 2, none⟩ = some (.bool s) := by rw [hW0]; exact cellOld _ (cellNew (by simp) rfl)
  have c10 : W0.cell? ⟨w.heap.size + 1, 0, none⟩ = some (.int .i64 c) := by rw [hW0]; exact cellNew (by simp) rfl
  have c11 : W0.cell? ⟨w.heap.size + 1, 1, none⟩ = some (.int .i64 d) := by rw [hW0]; exact cellNew (by simp) rfl
  have c12 : W0.cell? ⟨w.heap.size + 1, 2, none⟩ = some (.bool t) := by rw [hW0]; exact cellNew (by simp) rfl
  have BR : RowKit.Hid (∀ W, Kept W0 W → W.cell? ⟨w.heap.size, 0, none⟩ = some (.int .i64 a) ∧ W.cell? ⟨w.heap.size, 1, none⟩ = some (.int .i64 b) ∧ W.cell? ⟨w.heap.size, 2, none⟩ = some (.bool s) ∧ W.cell? ⟨w.heap.size + 1, 0, none⟩ = some (.int .i64 c) ∧ W.cell? ⟨w.heap.size + 1, 1, none⟩ = some (.int .i64 d) ∧ W.cell? ⟨w.heap.size + 1, 2, none⟩ = some (.bool t)) := Lib.hid (fun W hW => ⟨(hW.cells _ _ (cell_lt c00)).trans c00, (hW.cells _ _ (cell_lt c01)).trans c01, (hW.cells _ _ (cell_lt c02)).trans c02, (hW.cells _ _ (cell_lt c10)).trans c10, (hW.cells _ _ (cell_lt c11)).trans c11, (hW.cells _ _ (cell_lt c12)).trans c12⟩)
  have Z0 : W0.heap.size = w.heap.size + 1 + 1 := by rw [hW0]; simp
  have ZZ := Lib.hid Z0
  have HW := Lib.hid hW0
  have K0 := Lib.hid k0
  clear hW0 k0 Z0
  have kk := Kept.refl W0
  have b0 := cell_lt c00
  have b1 := cell_lt c10
  by_cases h250 : 250 < n
  · go_enter Try.func4, Try.ntmps4
    go_upto_region 1 with (fail)
    rw [← HW.out]
    go_wp2_with fail
    refine (counted_any _).mono ?_
    rintro e w1 ⟨rfl, hk⟩
    go_wp2
    go_ret
    exact ⟨rfl, K0.out.trans hk⟩
  obtain ⟨p, q, r, er, hs⟩ : ∃ p q r er, sumX xs = ((p, q, r), er) := ⟨_, _, _, _, rfl⟩
  obtain ⟨u1, u2, u3, hu⟩ : ∃ u1 u2 u3, bothX a b s c d t = (u1, u2, u3) := ⟨_, _, _, rfl⟩
  obtain ⟨v1, v2, v3, hv⟩ : ∃ v1 v2 v3, lessX a b s c d t = (v1, v2, v3) := ⟨_, _, _, rfl⟩
  have H31 : RowKit.Hid (∀ W, Kept w W → Calls Try.prog 31 #[.slice A n cp] W fun e w' => e = .returned (.tuple #[.agg #[.int .i64 p, .int .i64 q, .bool r], .int .i64 er]) ∧ Kept W w') := Lib.hid (fun W hW => by have := sum_any A n cp xs W (HT.out.kept hW) (by omega); rw [hs] at this; exact this)
  have H32 : RowKit.Hid (∀ W, Kept w W → Calls Try.prog 32 #[.slice A n cp] W fun e w' => e = .returned (.tuple #[.agg #[.int .i64 p, .int .i64 q, .bool r], .int .i64 er]) ∧ Kept W w') := Lib.hid (fun W hW => by have := rsum_any A n cp xs W (HT.out.kept hW) (by omega); rw [hs] at this; exact this)
  have HB : RowKit.Hid (∀ W, Calls Try.prog 33 #[.agg #[.int .i64 a, .int .i64 b, .bool s], .agg #[.int .i64 c, .int .i64 d, .bool t]] W fun e w' => e = .returned (.agg #[.int .i64 u1, .int .i64 u2, .bool u3]) ∧ Kept W w') := Lib.hid (fun W => by have := both_any a b s c d t W; rw [hu] at this; exact this)
  have HRB : RowKit.Hid (∀ W, Calls Try.prog 34 #[.agg #[.int .i64 a, .int .i64 b, .bool s], .agg #[.int .i64 c, .int .i64 d, .bool t]] W fun e w' => e = .returned (.agg #[.int .i64 u1, .int .i64 u2, .bool u3]) ∧ Kept W w') := Lib.hid (fun W => by have := rboth_any a b s c d t W; rw [hu] at this; exact this)
  have HL : RowKit.Hid (∀ W, Calls Try.prog 35 #[.agg #[.int .i64 a, .int .i64 b, .bool s], .agg #[.int .i64 c, .int .i64 d, .bool t]] W fun e w' => e = .returned (.agg #[.int .i64 v1, .int .i64 v2, .bool v3]) ∧ Kept W w') := Lib.hid (fun W => by have := less_any a b s c d t W; rw [hv] at this; exact this)
  have HRL : RowKit.Hid (∀ W, Calls Try.prog 36 #[.agg #[.int .i64 a, .int .i64 b, .bool s], .agg #[.int .i64 c, .int .i64 d, .bool t]] W fun e w' => e = .returned (.agg #[.int .i64 v1, .int .i64 v2, .bool v3]) ∧ Kept W w') := Lib.hid (fun W => by have := rless_any a b s c d t W; rw [hv] at this; exact this)
  clear hs hu hv
  go_enter Try.func4, Try.ntmps4
  go_upto_region 1 with (fail)
  rw [← HW.out]
  go_wp2_with fail
  refine (H31.out _ K0.out).mono ?_
  rintro e w3 ⟨rfl, hk3⟩
  have HK3 := Lib.hid hk3
  clear hk3
  go_wp2_with fail
  refine (H32.out _ ((K0.out.trans HK3.out).alloc _)).mono ?_
  rintro e w4 ⟨rfl, hk4⟩
  have HK4 := Lib.hid hk4
  clear hk4
  go_upto_region 5 with (fail)
  have HK34 := Lib.hid (((Kept.refl w3).alloc (.cells #[.int .i64 p, .int .i64 q, .bool r] 34)).trans HK4.out)
  obtain ⟨W5, hW5⟩ : ∃ W5, W5 = w4.alloc (.cells #[.int .i64 p, .int .i64 q, .bool r] 34) := ⟨_, rfl⟩
  have k45 : Kept w4 W5 := by rw [hW5]; exact (Kept.refl _).alloc _
  have R0 : RowKit.Hid (RowC W5 w.heap.size [.int .i64 a, .int .i64 b, .bool s]) := Lib.hid ((show RowC W0 _ _ by rw [HW.out]; exact (RowC.new _ _ 34).kept ((Kept.refl _).alloc _)).kept ((HK3.out.trans HK34.out).trans k45))
  have R1 : RowKit.Hid (RowC W5 (w.heap.size + 1) [.int .i64 c, .int .i64 d, .bool t]) := Lib.hid ((show RowC W0 _ _ by rw [HW.out]; exact RowC.atn (vs := [.int .i64 c, .int .i64 d, .bool t]) (by simp)).kept ((HK3.out.trans HK34.out).trans k45))
  have R2 : RowKit.Hid (RowC W5 w3.heap.size [.int .i64 p, .int .i64 q, .bool r]) := Lib.hid (((RowC.new w3 [.int .i64 p, .int .i64 q, .bool r] 34).kept HK4.out).kept k45)
  have R3 : RowKit.Hid (RowC W5 w4.heap.size [.int .i64 p, .int .i64 q, .bool r]) := Lib.hid (by rw [hW5]; exact RowC.new w4 [.int .i64 p, .int .i64 q, .bool r] 34)
  have K5 := Lib.hid ((K0.out.trans (HK3.out.trans HK34.out)).trans k45)
  rw [← hW5]
  clear BR kk c00 c01 c02 c10 c11 c12 b0 b1 hW5 k45
  have SB : RowKit.Hid (∀ W, Kept W5 W → W.cell? ⟨w.heap.size, 0, none⟩ = some (.int .i64 a) ∧ W.cell? ⟨w.heap.size, 1, none⟩ = some (.int .i64 b) ∧ W.cell? ⟨w.heap.size, 2, none⟩ = some (.bool s) ∧ W.cell? ⟨w.heap.size + 1, 0, none⟩ = some (.int .i64 c) ∧ W.cell? ⟨w.heap.size + 1, 1, none⟩ = some (.int .i64 d) ∧ W.cell? ⟨w.heap.size + 1, 2, none⟩ = some (.bool t) ∧ W.cell? ⟨w3.heap.size, 0, none⟩ = some (.int .i64 p) ∧ W.cell? ⟨w3.heap.size, 1, none⟩ = some (.int .i64 q) ∧ W.cell? ⟨w3.heap.size, 2, none⟩ = some (.bool r) ∧ W.cell? ⟨w4.heap.size, 0, none⟩ = some (.int .i64 p) ∧ W.cell? ⟨w4.heap.size, 1, none⟩ = some (.int .i64 q) ∧ W.cell? ⟨w4.heap.size, 2, none⟩ = some (.bool r) ∧ Kept W5 W) := Lib.hid (fun W hW => ⟨((R0.out.kept hW) 0 _ rfl).1, ((R0.out.kept hW) 1 _ rfl).1, ((R0.out.kept hW) 2 _ rfl).1, ((R1.out.kept hW) 0 _ rfl).1, ((R1.out.kept hW) 1 _ rfl).1, ((R1.out.kept hW) 2 _ rfl).1, ((R2.out.kept hW) 0 _ rfl).1, ((R2.out.kept hW) 1 _ rfl).1, ((R2.out.kept hW) 2 _ rfl).1, ((R3.out.kept hW) 0 _ rfl).1, ((R3.out.kept hW) 1 _ rfl).1, ((R3.out.kept hW) 2 _ rfl).1, hW⟩)
  have SST : RowKit.Hid (∀ W W', (W.cell? ⟨w.heap.size, 0, none⟩ = some (.int .i64 a) ∧ W.cell? ⟨w.heap.size, 1, none⟩ = some (.int .i64 b) ∧ W.cell? ⟨w.heap.size, 2, none⟩ = some (.bool s) ∧ W.cell? ⟨w.heap.size + 1, 0, none⟩ = some (.int .i64 c) ∧ W.cell? ⟨w.heap.size + 1, 1, none⟩ = some (.int .i64 d) ∧ W.cell? ⟨w.heap.size + 1, 2, none⟩ = some (.bool t) ∧ W.cell? ⟨w3.heap.size, 0, none⟩ = some (.int .i64 p) ∧ W.cell? ⟨w3.heap.size, 1, none⟩ = some (.int .i64 q) ∧ W.cell? ⟨w3.heap.size, 2, none⟩ = some (.bool r) ∧ W.cell? ⟨w4.heap.size, 0, none⟩ = some (.int .i64 p) ∧ W.cell? ⟨w4.heap.size, 1, none⟩ = some (.int .i64 q) ∧ W.cell? ⟨w4.heap.size, 2, none⟩ = some (.bool r) ∧ Kept W5 W) → Kept W W' → W'.cell? ⟨w.heap.size, 0, none⟩ = some (.int .i64 a) ∧ W'.cell? ⟨w.heap.size, 1, none⟩ = some (.int .i64 b) ∧ W'.cell? ⟨w.heap.size, 2, none⟩ = some (.bool s) ∧ W'.cell? ⟨w.heap.size + 1, 0, none⟩ = some (.int .i64 c) ∧ W'.cell? ⟨w.heap.size + 1, 1, none⟩ = some (.int .i64 d) ∧ W'.cell? ⟨w.heap.size + 1, 2, none⟩ = some (.bool t) ∧ W'.cell? ⟨w3.heap.size, 0, none⟩ = some (.int .i64 p) ∧ W'.cell? ⟨w3.heap.size, 1, none⟩ = some (.int .i64 q) ∧ W'.cell? ⟨w3.heap.size, 2, none⟩ = some (.bool r) ∧ W'.cell? ⟨w4.heap.size, 0, none⟩ = some (.int .i64 p) ∧ W'.cell? ⟨w4.heap.size, 1, none⟩ = some (.int .i64 q) ∧ W'.cell? ⟨w4.heap.size, 2, none⟩ = some (.bool r) ∧ Kept W5 W') := Lib.hid (fun W W' h hk => SB.out W' (h.2.2.2.2.2.2.2.2.2.2.2.2.trans hk))
  have SA := Lib.hid (SB.out _ ((Kept.refl _).drew))
  obtain ⟨c00, c01, c02, c10, c11, c12, c20, c21, c22, c30, c31, c32, _⟩ := SB.out _ (Kept.refl _)
  have b0 := cell_lt c00
  have b1 := cell_lt c10
  have b2 := cell_lt c20
  have b3 := cell_lt c30
  go_region_held3 (fun W => W.cell? ⟨w.heap.size, 0, none⟩ = some (.int .i64 a) ∧ W.cell? ⟨w.heap.size, 1, none⟩ = some (.int .i64 b) ∧ W.cell? ⟨w.heap.size, 2, none⟩ = some (.bool s) ∧ W.cell? ⟨w.heap.size + 1, 0, none⟩ = some (.int .i64 c) ∧ W.cell? ⟨w.heap.size + 1, 1, none⟩ = some (.int .i64 d) ∧ W.cell? ⟨w.heap.size + 1, 2, none⟩ = some (.bool t) ∧ W.cell? ⟨w3.heap.size, 0, none⟩ = some (.int .i64 p) ∧ W.cell? ⟨w3.heap.size, 1, none⟩ = some (.int .i64 q) ∧ W.cell? ⟨w3.heap.size, 2, none⟩ = some (.bool r) ∧ W.cell? ⟨w4.heap.size, 0, none⟩ = some (.int .i64 p) ∧ W.cell? ⟨w4.heap.size, 1, none⟩ = some (.int .i64 q) ∧ W.cell? ⟨w4.heap.size, 2, none⟩ = some (.bool r) ∧ Kept W5 W) (first | (with_reducible exact SA.out) | (with_reducible refine SST.out _ _ ?_ hkk; assumption) | fail) (first | fail | (go_at_call 30; refine (counted_any _).mono ?_; rintro e w' ⟨rfl, hkk⟩) | (go_at_call 33; refine (HB.out _).mono ?_; rintro e w' ⟨rfl, hkk⟩) | (go_at_call 34; refine (HRB.out _).mono ?_; rintro e w' ⟨rfl, hkk⟩) | (go_at_call 35; refine (HL.out _).mono ?_; rintro e w' ⟨rfl, hkk⟩) | (go_at_call 36; refine (HRL.out _).mono ?_; rintro e w' ⟨rfl, hkk⟩))
  obtain ⟨_, _, _, _, _, _, _, _, _, _, _, _, hz5⟩ := ‹_ ∧ _›
  go_wp2
  go_ret
  exact ⟨by simp, K5.out.trans hz5⟩
end Go.Proofs.Ytjaicilnlgjdcaa
