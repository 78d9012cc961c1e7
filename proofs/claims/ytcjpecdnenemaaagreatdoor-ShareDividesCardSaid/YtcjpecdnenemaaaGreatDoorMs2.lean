/- slices' symMerge, over a row of ints: where one side is one element -/
import Derived.Test.YtcjpecdnenemaaaGreatDoorMs1
import Derived.BigRegion
namespace Go.Proofs.YtcjpecdnenemaaaGreatDoor
set_option linter.all false
open Go.RowKit Go.Shelf

/-- what the comparison of two indices gives, in every world in which only block g has changed -/
def CmpG (g bc nn : Nat) (cf : Nat → Nat → Int) (w : World) : Prop := ∀ W, But g w W → ∀ i j, i < nn → j < nn → Calls Tryz.prog 139 #[.int .i64 (i : Int), .int .i64 (j : Int), .pointer (some ⟨bc, 0, none⟩)] W fun e W' => e = .returned (.int .i64 (cf i j)) ∧ ∃ q, W' = W.drewN q
theorem Stp.drewB {g : Nat} {a b : World} {l : List Nat} (h : Stp g a l b) (q : Nat) : But g a (b.drewN q) := (h.drewN q).1

set_option maxRecDepth 100000 in
set_option maxHeartbeats 6400000 in
theorem merge_left (g n c bc nn : Nat) (cf : Nat → Nat → Int) (lt : Nat → Nat → Prop) (P Y S : List Nat) (x a m b : Nat) (ha : P.length = a) (hm : a + 1 = m) (hb : m + Y.length = b) (hn : b + S.length = n) (hY : 0 < Y.length) (hnc : n ≤ c) (hc : c ≤ 1000)
    (hx : x < nn) (hy : ∀ y ∈ Y, y < nn) (hcf : ∀ y ∈ Y, (cf y x < 0 ↔ lt y x)) (htr : ∀ (i j y z : Nat), Y[i]? = some y → Y[j]? = some z → i ≤ j → lt z x → lt y x)
    (w : World) (hC : CmpG g bc nn cf w) (hr : RowC w g (natV (P ++ [x] ++ Y ++ S))) :
    Calls Tryz.prog 201 #[.slice (some ⟨g, 0, none⟩) n c, .int .i64 a, .int .i64 m, .int .i64 b, (.func (.func 139) #[] #[.pointer (some ⟨bc, 0, none⟩)])] w fun e w' => e = .returned (.tuple #[]) ∧ ∃ t, t ≤ Y.length ∧ (∀ (k y : Nat), Y[k]? = some y → k < t → lt y x) ∧ (∀ (k y : Nat), Y[k]? = some y → t ≤ k → ¬ lt y x) ∧ Stp g w (P ++ Y.take t ++ [x] ++ Y.drop t ++ S) w' := by
  have HR := Lib.hid hr
  have HC := Lib.hid hC
  have HCF := Lib.hid hcf
  have HTR := Lib.hid htr
  have HY := Lib.hid hy
  clear hr hC hcf htr hy
  have v1 : IntKind.i64.wrap ((m : Int) - (a : Int)) = 1 := by rw [show (m : Int) - (a : Int) = 1 by omega]; exact IntWalk.i64_in _ (by omega)
  have e0 : ((m : Int) - (a : Int) == 1) = true := by simp; omega
  have g139 := e139
  go_enter Tryz.func201, Tryz.ntmps201
  go_wp2_with fail
  go_loopw [10, 11] (fun i j wr => ∃ p q : Nat, p ≤ q ∧ q ≤ Y.length ∧ i = .int .i64 ((m + p : Nat) : Int) ∧ j = .int .i64 ((m + q : Nat) : Int) ∧ (∀ (k y : Nat), Y[k]? = some y → k < p → lt y x) ∧ (∀ (k y : Nat), Y[k]? = some y → q ≤ k → ¬ lt y x) ∧ Stp g w (P ++ [x] ++ Y ++ S) wr) (fun i j _ => (intOf j).toNat - (intOf i).toNat)
  case atStart => exact ⟨0, Y.length, by omega, by omega, by simp, by rw [hb], fun k y _ h => by omega, fun k y hk h => by have := (List.getElem?_eq_some_iff.1 hk).1; omega, But.of_kept (Kept.refl _), HR.out⟩
  case round =>
    obtain ⟨p, q, hpq, hq, rfl, rfl, h1, h2, hst⟩ := hrel
    have H1 := Lib.hid h1
    have H2 := Lib.hid h2
    have HST := Lib.hid hst
    clear h1 h2 hst
    by_cases hlt : p < q
    · have d1 : decide (((m + p : Nat) : Int) < ((m + q : Nat) : Int)) = true := decide_eq_true (by omega)
      obtain ⟨th, hth⟩ : ∃ th, th = (p + q) / 2 := ⟨_, rfl⟩
      have ht1 : p ≤ th := by omega
      have ht2 : th < q := by omega
      obtain ⟨y, hy⟩ : ∃ y, Y[th]? = some y := ⟨Y[th]'(by omega), List.getElem?_eq_getElem (by omega)⟩
      have hyn := HY.out y (List.mem_of_getElem? hy)
      have hcy := HCF.out y (List.mem_of_getElem? hy)
      have cy := (HST.out.at (j := m + th) (o := y) (by
        rw [List.append_assoc, List.getElem?_append_right (by simp; omega)]
        rw [show m + th - (P ++ [x]).length = th by simp; omega, List.getElem?_append_left (by omega)]
        exact hy)).1
      have cx := (HST.out.at (j := a) (o := x) (by
        rw [List.append_assoc, List.append_assoc, List.getElem?_append_right (by omega), ha, Nat.sub_self]; rfl)).1
      have lc := cell_lt cx
      have HCq : RowKit.Hid (∀ r : Nat, Calls Tryz.prog 139 #[.int .i64 (y : Int), .int .i64 (x : Int), .pointer (some ⟨bc, 0, none⟩)] (wr.drewN r) fun e W' => e = .returned (.int .i64 (cf y x)) ∧ ∃ q', W' = (wr.drewN r).drewN q') := Lib.hid (fun r => HC.out _ (HST.out.drewB r) y x hyn hx)
      have hh : ((m : Int) + (p : Int) + ((m : Int) + (q : Int))) / 2 = ((m + th : Nat) : Int) := by omega
      have HYT := Lib.hid hy
      have HHT := Lib.hid hth
      have HCY := Lib.hid hcy
      have i1 : (0 : Int) ≤ ((m + th : Nat) : Int) := by omega
      have i2 : ((m + th : Nat) : Int) < (n : Int) := by omega
      have i3 : (0 : Int) ≤ (a : Int) := by omega
      have i4 : (a : Int) < (n : Int) := by omega
      clear hy hth hcy
      go_upto_region 5 with (fail)
      try rw [hh]
      go_cut [50] (fun v wx => v = .bool (decide (cf y x < 0)) ∧ ∃ r, wx = wr.drewN r)
      case first =>
        go_quiet ((go_at_call 139; with_reducible exact Calls.quiet_of (HCq.out _)))
        go_wp2
        go_meet
        exact ⟨rfl, _, rfl⟩
      obtain ⟨rfl, r, rfl⟩ := hcut
      obtain ⟨bv, hbv⟩ : ∃ bv, bv = decide (cf y x < 0) := ⟨_, rfl⟩
      rw [← hbv]
      cases bv
      · have hcmp : ¬ cf y x < 0 := of_decide_eq_false hbv.symm
        have HLT : RowKit.Hid (¬ lt y x) := Lib.hid (fun h => hcmp (HCY.out.2 h))
        clear hcmp hbv
        go_wp2
        go_roundw
        case rel => exact ⟨p, th, by omega, by omega, by first | rfl | trivial, by first | rfl | trivial | (congr 1; done) | (congr 1; omega), H1.out, fun k yk hk hkt h => HLT.out (HTR.out th k y yk HYT.out hk hkt h), HST.out.drewN r⟩
        case measure => simp [intOf]; omega
      · have hcmp : cf y x < 0 := of_decide_eq_true hbv.symm
        have HLT := Lib.hid (HCY.out.1 hcmp)
        have w1 : IntKind.i64.wrap ((m : Int) + (th : Int) + 1) = (m : Int) + (th : Int) + 1 := IntWalk.i64_in _ (by omega)
        clear hcmp hbv
        go_wp2
        go_roundw
        case rel => exact ⟨th + 1, q, by omega, hq, by first | rfl | trivial | (congr 1; done) | (congr 1; omega), by first | rfl | trivial, fun k yk hk hkt => HTR.out k th yk y hk HYT.out (by omega) HLT.out, H2.out, HST.out.drewN r⟩
        case measure => simp [intOf]; omega
    · obtain rfl : p = q := by omega
      obtain ⟨ts, hts⟩ : ∃ ts, ts = p := ⟨_, rfl⟩
      rw [← hts] at H1 H2 hq ⊢
      clear hts hlt hpq
      have w0 : IntKind.i64.wrap (((m + ts : Nat) : Int) - 1) = ((a + ts : Nat) : Int) := by rw [show ((m + ts : Nat) : Int) - 1 = ((a + ts : Nat) : Int) by omega]; exact IntWalk.i64_in _ (by omega)
      have w00 : IntKind.i64.wrap ((m : Int) + (ts : Int) - 1) = ((a + ts : Nat) : Int) := by rw [show (m : Int) + (ts : Int) - 1 = ((a + ts : Nat) : Int) by omega]; exact IntWalk.i64_in _ (by omega)
      go_wp2_with fail
      go_loopw [13] (fun kk wx => ∃ s : Nat, s ≤ ts ∧ kk = .int .i64 ((a + s : Nat) : Int) ∧ Stp g w (P ++ Y.take s ++ [x] ++ Y.drop s ++ S) wx) (fun kk _ => a + ts - (intOf kk).toNat)
      case atStart => exact ⟨0, by omega, by simp, by simpa using HST.out⟩
      case round =>
        obtain ⟨s, hs, rfl, hst⟩ := hrel
        by_cases hlt2 : s < ts
        · obtain ⟨v, hv⟩ : ∃ v, Y[s]? = some v := ⟨Y[s]'(by omega), List.getElem?_eq_getElem (by omega)⟩
          have e1 : P ++ Y.take s ++ [x] ++ Y.drop s ++ S = (P ++ Y.take s) ++ x :: ([] ++ v :: (Y.drop (s + 1) ++ S)) := by
            rw [List.drop_eq_getElem_cons (show s < Y.length by omega)]
            rw [List.getElem?_eq_getElem (show s < Y.length by omega)] at hv
            injection hv with hv
            rw [hv]
            simp
          have e2 : (P ++ Y.take s) ++ v :: ([] ++ x :: (Y.drop (s + 1) ++ S)) = P ++ Y.take (s + 1) ++ [x] ++ Y.drop (s + 1) ++ S := by
            rw [List.take_succ, hv]
            simp
          rw [e1] at hst
          have hx' : (P ++ Y.take s).length = a + s := by rw [List.length_append, List.length_take]; omega
          have hS := fun W (h : Stp g w _ W) => Stp.swap (g := g) (w := w) (W := W) (L := P ++ Y.take s) (M := []) (R := Y.drop (s + 1) ++ S) (u := x) (v := v) h (a + s) (a + s + 1) hx' (by simp)
          rw [e2] at hS
          obtain ⟨c1, f1⟩ := hst.at (j := a + s) (o := x) (by rw [List.getElem?_append_right (by omega), hx', Nat.sub_self]; rfl)
          obtain ⟨c2, f2⟩ := hst.at (j := a + s + 1) (o := v) (by rw [List.getElem?_append_right (by omega), hx', show a + s + 1 - (a + s) = 1 by omega]; rfl)
          have lx := cell_lt c1
          have HST2 := Lib.hid hst
          have HS := Lib.hid hS
          have d1 : decide (((a + s : Nat) : Int) < ((a + ts : Nat) : Int)) = true := decide_eq_true (by omega)
          have w1 : IntKind.i64.wrap ((a : Int) + (s : Int) + 1) = (a : Int) + (s : Int) + 1 := IntWalk.i64_in _ (by omega)
          have i1 : (0 : Int) ≤ (a : Int) + (s : Int) := by omega
          have i2 : (a : Int) + (s : Int) < (n : Int) := by omega
          have i3 : (0 : Int) ≤ (a : Int) + (s : Int) + 1 := by omega
          have i4 : (a : Int) + (s : Int) + 1 < (n : Int) := by omega
          have t1 : ((a : Int) + (s : Int)).toNat = a + s := by omega
          have t2 : ((a : Int) + (s : Int) + 1).toNat = a + s + 1 := by omega
          have hne : a + s ≠ a + s + 1 := by omega
          clear hst hS e1 e2 hx' hv
          go_upto_region 11 with (fail)
          go_region
          all_goals
            go_wp2
            go_roundw
            case rel => exact ⟨s + 1, by omega, by first | rfl | trivial | (congr 1; done) | (congr 1; omega), (HS.out _ HST2.out).drew⟩
            case measure => simp [intOf]; omega
        · obtain rfl : s = ts := by omega
          have d1 : decide (((a + s : Nat) : Int) < ((a + s : Nat) : Int)) = false := decide_eq_false (by omega)
          go_wp2
          refine bodyPost_ret (results_none rfl _ _ _) rfl ?_
          exact ⟨by first | rfl | trivial, s, hq, H1.out, H2.out, hst⟩
end Go.Proofs.YtcjpecdnenemaaaGreatDoor
