/- in; what True allows; Narrower -/
import Derived.Test.YtjaicilnlgjdcaaTi
namespace Go.Proofs.Ytjaicilnlgjdcaa
set_option linter.all false
open Go.RowKit

theorem leastOf_iff {d lw n : Int} (hd : 0 ≤ d) (h0 : 0 ≤ n) (h1 : n ≤ 100000) : (leastOf d lw : Int) ≤ n ↔ lw ≤ hiI d n := by
  obtain ⟨k, rfl⟩ : ∃ k : Nat, n = k := ⟨n.toNat, by omega⟩
  constructor
  · intro h
    have h2 : leastOf d lw < 100001 := by omega
    have h3 := firstN_at (p := fun i => decide (lw ≤ hiI d i)) h2
    simp only [decide_eq_true_eq] at h3
    have h4 : hiI d (firstN (fun i => decide (lw ≤ hiI d i)) 100001 : Nat) ≤ hiI d k := hiI_mono hd (by unfold leastOf at h; exact h)
    omega
  · intro h
    rcases Nat.lt_or_ge k (leastOf d lw) with h2 | h2
    · have h3 := firstN_lt (p := fun i => decide (lw ≤ hiI d i)) (n := 100001) (j := k) h2
      simp only [decide_eq_false_iff_not] at h3
      exact absurd h h3
    · omega
theorem mostOf_iff {m hg n : Int} (hm : 0 ≤ m) (hm1 : m ≤ 1000) (h0 : 0 ≤ n) (h1 : n ≤ 100000) : n ≤ mostOf m hg ↔ loI m n ≤ hg := by
  have hb := belowOf_le m hg
  constructor
  · intro h
    unfold mostOf at h
    have h2 : belowOf m hg < 100001 := by omega
    have h3 := firstN_at (p := fun i => decide (loI m (100000 - i) ≤ hg)) h2
    simp only [decide_eq_true_eq] at h3
    have h4 : loI m n ≤ loI m (100000 - (firstN (fun i => decide (loI m (100000 - i) ≤ hg)) 100001 : Nat)) := loI_mono hm hm1 (by unfold belowOf at h; omega)
    omega
  · intro h
    rcases Nat.lt_or_ge (100000 - n).toNat (belowOf m hg) with h2 | h2
    · have h3 := firstN_lt (p := fun i => decide (loI m (100000 - i) ≤ hg)) (n := 100001) (j := (100000 - n).toNat) h2
      simp only [decide_eq_false_iff_not] at h3
      rw [show (100000 : Int) - ((100000 - n).toNat : Int) = n by omega] at h3
      exact absurd h h3
    · unfold mostOf; omega
/-- a number is in an interval -/
def inI (a b : Int) (s : Bool) (n : Int) : Bool := s && decide (a ≤ n) && decide (n ≤ b)
theorem spI_in (a b n : Int) : inI (spI a b).1 (spI a b).2.1 (spI a b).2.2 n = (decide (a ≤ n) && decide (n ≤ b)) := by
  unfold inI spI spL spH spS
  by_cases h : a ≤ b
  · simp [h]
  · simp only [h, if_false, decide_false, Bool.false_and]
    rw [eq_comm, Bool.and_eq_false_iff]
    simp only [decide_eq_false_iff_not]; omega
theorem tr_in {m d c n : Int} (h : trOk m d c = true) (h0 : 0 ≤ n) (h1 : n ≤ 100000) : inI (trI m d c).1 (trI m d c).2.1 (trI m d c).2.2 n = inB c (loI m n) (hiI d n) := by
  unfold trI
  rw [if_pos h, spI_in]
  unfold trOk at h
  rw [Bool.and_eq_true] at h
  obtain ⟨⟨hm, hm1⟩, hd, hd1⟩ := rateB_bd h.1
  have e1 : decide ((leastOf d c : Int) ≤ n) = decide (c ≤ hiI d n) := by rw [decide_eq_decide]; exact leastOf_iff hd h0 h1
  have e2 : decide (n ≤ mostOf m c) = decide (loI m n ≤ c) := by rw [decide_eq_decide]; exact mostOf_iff hm (by omega) h0 h1
  rw [e1, e2]; unfold inB; exact Bool.and_comm _ _
theorem oc_in {m d i dy s nu x n : Int} (h : ocOk m d i dy s nu x = true) (h0 : 0 ≤ n) (h1 : n ≤ 100000) : inI (ocI m d i dy s nu x).1 (ocI m d i dy s nu x).2.1 (ocI m d i dy s nu x).2.2 n = (decide (loI m n ≤ nu + x) && decide (nu ≤ hiI d n)) := by
  unfold ocI
  rw [if_pos h, spI_in]
  unfold ocOk at h
  rw [Bool.and_eq_true] at h
  obtain ⟨⟨hm, hm1⟩, hd, hd1⟩ := rateB_bd h.1
  have e1 : decide ((leastOf d nu : Int) ≤ n) = decide (nu ≤ hiI d n) := by rw [decide_eq_decide]; exact leastOf_iff hd h0 h1
  have e2 : decide (n ≤ mostOf m (nu + x)) = decide (loI m n ≤ nu + x) := by rw [decide_eq_decide]; exact mostOf_iff hm (by omega) h0 h1
  rw [e1, e2]; exact Bool.and_comm _ _
theorem spI_ok (a : Nat) (b : Int) (hb : b ≤ 100000) (x : Int × Int × Bool) (hx : x = spI a b) : (x.2.2 = true ∧ 0 ≤ x.1 ∧ x.2.1 ≤ 100000 ∧ x.1 ≤ x.2.1) ∨ x = (0, 0, false) := by
  subst hx
  unfold spI spL spH spS
  by_cases h : (a : Int) ≤ b
  · left; simp [h]; omega
  · right; simp [h]
theorem mostOf_le (m hg : Int) : mostOf m hg ≤ 100000 := by unfold mostOf; omega
theorem tr_ok (m d c : Int) : ((trI m d c).2.2 = true ∧ 0 ≤ (trI m d c).1 ∧ (trI m d c).2.1 ≤ 100000 ∧ (trI m d c).1 ≤ (trI m d c).2.1) ∨ trI m d c = (0, 0, false) := by
  by_cases h : trOk m d c = true
  · exact spI_ok (leastOf d c) (mostOf m c) (mostOf_le _ _) _ (by rw [trI, if_pos h])
  · right; rw [trI, if_neg h]
theorem oc_ok (m d i dy s n x : Int) : ((ocI m d i dy s n x).2.2 = true ∧ 0 ≤ (ocI m d i dy s n x).1 ∧ (ocI m d i dy s n x).2.1 ≤ 100000 ∧ (ocI m d i dy s n x).1 ≤ (ocI m d i dy s n x).2.1) ∨ ocI m d i dy s n x = (0, 0, false) := by
  by_cases h : ocOk m d i dy s n x = true
  · exact spI_ok (leastOf d n) (mostOf m (n + x)) (mostOf_le _ _) _ (by rw [ocI, if_pos h])
  · right; rw [ocI, if_neg h]

theorem in_any (a b n : Int) (s : Bool) (w : World) :
    Calls Try.prog 58 #[.agg #[.int .i64 a, .int .i64 b, .bool s], .int .i64 n] w fun e w' => e = .returned (.bool (inI a b s n)) ∧ Kept w w' := by
  by_cases h : a ≤ n <;> cases s
  all_goals
    go_enter Try.func58, Try.ntmps58
    go_wp2
    go_ret
    exact ⟨ret_bool (by simp [inI]; try omega), (Kept.refl _).alloc _⟩

def narB (m d m2 d2 : Int) : Bool := rateB m d && rateB m2 d2 && decide (m ≤ m2) && decide (d ≤ d2)
set_option maxRecDepth 100000 in
theorem narrower_any (m d m2 d2 : Int) (w : World) :
    Calls Try.prog 55 #[.agg #[.int .i64 m, .int .i64 d], .agg #[.int .i64 m2, .int .i64 d2]] w fun e w' => e = .returned (.bool (narB m d m2 d2)) ∧ Kept w w' := by
  obtain ⟨W0, hW0⟩ : ∃ W0, W0 = (w.alloc (.cells #[.int .i64 m, .int .i64 d] 23)).alloc (.cells #[.int .i64 m2, .int .i64 d2] 23) := ⟨_, rfl⟩
  have k0 : Kept w W0 := by rw [hW0]; exact (((Kept.refl _).alloc _).alloc _)
  have c00 : W0.cell? ⟨w.heap.size, 0, none⟩ = some (.int .i64 m) := by rw [hW0]; exact cellOld _ (cellNew (by simp) rfl)
  have c01 : W0.cell? ⟨w.heap.size, 1, none⟩ = some (.int .i64 d) := by rw [hW0]; exact cellOld _ (cellNew (by simp) rfl)
  have c10 : W0.cell? ⟨w.heap.size + 1, 0, none⟩ = some (.int .i64 m2) := by rw [hW0]; exact cellNew (by simp) rfl
  have c11 : W0.cell? ⟨w.heap.size + 1, 1, none⟩ = some (.int .i64 d2) := by rw [hW0]; exact cellNew (by simp) rfl
  have BR : RowKit.Hid (∀ W, Kept W0 W → W.cell? ⟨w.heap.size, 0, none⟩ = some (.int .i64 m) ∧ W.cell? ⟨w.heap.size, 1, none⟩ = some (.int .i64 d) ∧ W.cell? ⟨w.heap.size + 1, 0, none⟩ = some (.int .i64 m2) ∧ W.cell? ⟨w.heap.size + 1, 1, none⟩ = some (.int .i64 d2)) := Lib.hid (fun W hW => ⟨(hW.cells _ _ (cell_lt c00)).trans c00, (hW.cells _ _ (cell_lt c01)).trans c01, (hW.cells _ _ (cell_lt c10)).trans c10, (hW.cells _ _ (cell_lt c11)).trans c11⟩)
  have Z0 : W0.heap.size = w.heap.size + 1 + 1 := by rw [hW0]; simp
  have ZZ := Lib.hid Z0
  have HW := Lib.hid hW0
  have K0 := Lib.hid k0
  clear hW0 k0 Z0
  have kk := Kept.refl W0
  have b0 := cell_lt c00
  have b1 := cell_lt c10
  obtain ⟨p, hp⟩ : ∃ p, p = rateB m d := ⟨_, rfl⟩
  obtain ⟨q, hq⟩ : ∃ q, q = rateB m2 d2 := ⟨_, rfl⟩
  have HA : RowKit.Hid (∀ W, Calls Try.prog 59 #[.agg #[.int .i64 m, .int .i64 d]] W fun e w' => e = .returned (.bool p) ∧ Kept W w') := Lib.hid (fun W => by rw [hp]; exact isRate_any m d W)
  have HB : RowKit.Hid (∀ W, Calls Try.prog 59 #[.agg #[.int .i64 m2, .int .i64 d2]] W fun e w' => e = .returned (.bool q) ∧ Kept W w') := Lib.hid (fun W => by rw [hq]; exact isRate_any m2 d2 W)
  cases p
  · have HS : RowKit.Hid (narB m d m2 d2 = false) := Lib.hid (by simp [narB, ← hp])
    clear hp hq
    go_enter Try.func55, Try.ntmps55
    go_upto_region 1 with (fail)
    rw [← HW.out]
    go_wp2_with (first
        | (go_at_call 59; (with_reducible refine (HA.out _).mono ?_); rintro e w1 ⟨rfl, hk⟩; replace kk := (by first | with_reducible exact kk.trans hk | with_reducible exact (kk.alloc _).trans hk | with_reducible exact kk.drew.trans hk | with_reducible exact (kk.drew.alloc _).trans hk | with_reducible exact (kk.alloc _).drew.trans hk | with_reducible exact ((kk.alloc _).alloc _).trans hk | with_reducible exact ((kk.drew.alloc _).alloc _).trans hk | fail); obtain ⟨c00, c01, c10, c11⟩ := BR.out _ kk; have b0 := cell_lt c00; have b1 := cell_lt c10)
        | fail)
    go_ret
    exact ⟨ret_bool HS.out.symm, K0.out.trans (by first | with_reducible exact kk | with_reducible exact kk.alloc _ | with_reducible exact kk.drew | with_reducible exact kk.drew.alloc _ | with_reducible exact (kk.alloc _).alloc _ | fail)⟩
  · cases q
    · have HS : RowKit.Hid (narB m d m2 d2 = false) := Lib.hid (by simp [narB, ← hq])
      clear hp hq
      go_enter Try.func55, Try.ntmps55
      go_upto_region 1 with (fail)
      rw [← HW.out]
      go_wp2_with (first
        | (go_at_call 59; (with_reducible refine (HA.out _).mono ?_); rintro e w1 ⟨rfl, hk⟩; replace kk := (by first | with_reducible exact kk.trans hk | with_reducible exact (kk.alloc _).trans hk | with_reducible exact kk.drew.trans hk | with_reducible exact (kk.drew.alloc _).trans hk | with_reducible exact (kk.alloc _).drew.trans hk | with_reducible exact ((kk.alloc _).alloc _).trans hk | with_reducible exact ((kk.drew.alloc _).alloc _).trans hk | fail); obtain ⟨c00, c01, c10, c11⟩ := BR.out _ kk; have b0 := cell_lt c00; have b1 := cell_lt c10)
        | (go_at_call 59; (with_reducible refine (HB.out _).mono ?_); rintro e w1 ⟨rfl, hk⟩; replace kk := (by first | with_reducible exact kk.trans hk | with_reducible exact (kk.alloc _).trans hk | with_reducible exact kk.drew.trans hk | with_reducible exact (kk.drew.alloc _).trans hk | with_reducible exact (kk.alloc _).drew.trans hk | with_reducible exact ((kk.alloc _).alloc _).trans hk | with_reducible exact ((kk.drew.alloc _).alloc _).trans hk | fail); obtain ⟨c00, c01, c10, c11⟩ := BR.out _ kk; have b0 := cell_lt c00; have b1 := cell_lt c10)
        | fail)
      go_ret
      exact ⟨ret_bool HS.out.symm, K0.out.trans (by first | with_reducible exact kk | with_reducible exact kk.alloc _ | with_reducible exact kk.drew | with_reducible exact kk.drew.alloc _ | with_reducible exact (kk.alloc _).alloc _ | fail)⟩
    · by_cases h : m ≤ m2
      · have HS : RowKit.Hid (narB m d m2 d2 = decide (d ≤ d2)) := Lib.hid (by simp [narB, ← hp, ← hq, h])
        clear hp hq
        go_enter Try.func55, Try.ntmps55
        go_upto_region 1 with (fail)
        rw [← HW.out]
        go_wp2_with (first
        | (go_at_call 59; (with_reducible refine (HA.out _).mono ?_); rintro e w1 ⟨rfl, hk⟩; replace kk := (by first | with_reducible exact kk.trans hk | with_reducible exact (kk.alloc _).trans hk | with_reducible exact kk.drew.trans hk | with_reducible exact (kk.drew.alloc _).trans hk | with_reducible exact (kk.alloc _).drew.trans hk | with_reducible exact ((kk.alloc _).alloc _).trans hk | with_reducible exact ((kk.drew.alloc _).alloc _).trans hk | fail); obtain ⟨c00, c01, c10, c11⟩ := BR.out _ kk; have b0 := cell_lt c00; have b1 := cell_lt c10)
        | (go_at_call 59; (with_reducible refine (HB.out _).mono ?_); rintro e w1 ⟨rfl, hk⟩; replace kk := (by first | with_reducible exact kk.trans hk | with_reducible exact (kk.alloc _).trans hk | with_reducible exact kk.drew.trans hk | with_reducible exact (kk.drew.alloc _).trans hk | with_reducible exact (kk.alloc _).drew.trans hk | with_reducible exact ((kk.alloc _).alloc _).trans hk | with_reducible exact ((kk.drew.alloc _).alloc _).trans hk | fail); obtain ⟨c00, c01, c10, c11⟩ := BR.out _ kk; have b0 := cell_lt c00; have b1 := cell_lt c10)
        | fail)
        go_ret
        exact ⟨ret_bool HS.out.symm, K0.out.trans (by first | with_reducible exact kk | with_reducible exact kk.alloc _ | with_reducible exact kk.drew | with_reducible exact kk.drew.alloc _ | with_reducible exact (kk.alloc _).alloc _ | fail)⟩
      · have HS : RowKit.Hid (narB m d m2 d2 = false) := Lib.hid (by simp [narB, h])
        clear hp hq
        go_enter Try.func55, Try.ntmps55
        go_upto_region 1 with (fail)
        rw [← HW.out]
        go_wp2_with (first
        | (go_at_call 59; (with_reducible refine (HA.out _).mono ?_); rintro e w1 ⟨rfl, hk⟩; replace kk := (by first | with_reducible exact kk.trans hk | with_reducible exact (kk.alloc _).trans hk | with_reducible exact kk.drew.trans hk | with_reducible exact (kk.drew.alloc _).trans hk | with_reducible exact (kk.alloc _).drew.trans hk | with_reducible exact ((kk.alloc _).alloc _).trans hk | with_reducible exact ((kk.drew.alloc _).alloc _).trans hk | fail); obtain ⟨c00, c01, c10, c11⟩ := BR.out _ kk; have b0 := cell_lt c00; have b1 := cell_lt c10)
        | (go_at_call 59; (with_reducible refine (HB.out _).mono ?_); rintro e w1 ⟨rfl, hk⟩; replace kk := (by first | with_reducible exact kk.trans hk | with_reducible exact (kk.alloc _).trans hk | with_reducible exact kk.drew.trans hk | with_reducible exact (kk.drew.alloc _).trans hk | with_reducible exact (kk.alloc _).drew.trans hk | with_reducible exact ((kk.alloc _).alloc _).trans hk | with_reducible exact ((kk.drew.alloc _).alloc _).trans hk | fail); obtain ⟨c00, c01, c10, c11⟩ := BR.out _ kk; have b0 := cell_lt c00; have b1 := cell_lt c10)
        | fail)
        go_ret
        exact ⟨ret_bool HS.out.symm, K0.out.trans (by first | with_reducible exact kk | with_reducible exact kk.alloc _ | with_reducible exact kk.drew | with_reducible exact kk.drew.alloc _ | with_reducible exact (kk.alloc _).alloc _ | fail)⟩

end Go.Proofs.Ytjaicilnlgjdcaa
