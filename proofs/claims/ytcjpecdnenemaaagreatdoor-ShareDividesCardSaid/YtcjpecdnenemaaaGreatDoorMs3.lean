/- slices' symMerge, over a row of ints: where the right side is one element -/
import Derived.Test.YtcjpecdnenemaaaGreatDoorMs2
namespace Go.Proofs.YtcjpecdnenemaaaGreatDoor
set_option linter.all false
open Go.RowKit Go.Shelf

theorem swap_set2 (L R : List Nat) (M : List Nat) (u v : Nat) (x y : Nat) (hx : L.length = x) (hy : x + 1 + M.length = y) :
    ((natV (L ++ u :: (M ++ v :: R))).set y (.int .i64 (u : Int))).set x (.int .i64 (v : Int)) = natV (L ++ v :: (M ++ u :: R)) := by
  rw [List.set_comm _ _ (by omega)]
  exact swap_set L R M u v x y hx hy
theorem Stp.swap2 {g : Nat} {w W : World} {L M R : List Nat} {u v : Nat} (h : Stp g w (L ++ u :: (M ++ v :: R)) W) (x y : Nat) (hx : L.length = x) (hy : x + 1 + M.length = y) :
    Stp g w (L ++ v :: (M ++ u :: R)) ((W.setCell ⟨g, y, none⟩ (.int .i64 (u : Int))).setCell ⟨g, x, none⟩ (.int .i64 (v : Int))) := by
  refine ⟨(h.1.set y _).set x _, ?_⟩
  rw [← swap_set2 L R M u v x y hx hy]
  refine (h.2.put (j := y) ?_ _).put (j := x) ?_ _
  · rw [natV_len]; simp; omega
  · rw [List.length_set, natV_len]; simp; omega

set_option maxRecDepth 100000 in
set_option maxHeartbeats 6400000 in
theorem merge_right (g n c bc nn : Nat) (cf : Nat → Nat → Int) (lt : Nat → Nat → Prop) (P X S : List Nat) (y a m b : Nat) (ha : P.length = a) (hm : a + X.length = m) (hb : m + 1 = b) (hn : b + S.length = n) (hX : 1 < X.length) (hnc : n ≤ c) (hc : c ≤ 1000)
    (hy : y < nn) (hx : ∀ x ∈ X, x < nn) (hcf : ∀ x ∈ X, (cf y x < 0 ↔ lt y x)) (htr : ∀ (i j u v : Nat), X[i]? = some u → X[j]? = some v → i ≤ j → lt y u → lt y v)
    (w : World) (hC : CmpG g bc nn cf w) (hr : RowC w g (natV (P ++ X ++ [y] ++ S))) :
    Calls Tryz.prog 201 #[.slice (some ⟨g, 0, none⟩) n c, .int .i64 a, .int .i64 m, .int .i64 b, (.func (.func 139) #[] #[.pointer (some ⟨bc, 0, none⟩)])] w fun e w' => e = .returned (.tuple #[]) ∧ ∃ t, t ≤ X.length ∧ (∀ (k x : Nat), X[k]? = some x → k < t → ¬ lt y x) ∧ (∀ (k x : Nat), X[k]? = some x → t ≤ k → lt y x) ∧ Stp g w (P ++ X.take t ++ [y] ++ X.drop t ++ S) w' := by
  have HR := Lib.hid hr
  have HC := Lib.hid hC
  have HCF := Lib.hid hcf
  have HTR := Lib.hid htr
  have HX := Lib.hid hx
  clear hr hC hcf htr hx
  obtain ⟨lx, hlx⟩ : ∃ lx, lx = X.length := ⟨_, rfl⟩
  rw [← hlx] at hm hX ⊢
  have v1 : IntKind.i64.wrap ((m : Int) - (a : Int)) = (lx : Int) := by rw [show (m : Int) - (a : Int) = (lx : Int) by omega]; exact IntWalk.i64_in _ (by omega)
  have e0 : ((lx : Int) == 1) = false := by simp; omega
  have e00 : ((m : Int) - (a : Int) == 1) = false := by simp; omega
  have v2 : IntKind.i64.wrap ((b : Int) - (m : Int)) = 1 := by rw [show (b : Int) - (m : Int) = 1 by omega]; exact IntWalk.i64_in _ (by omega)
  have e1 : ((b : Int) - (m : Int) == 1) = true := by simp; omega
  have g139 := e139
  have HLX := Lib.hid hlx
  clear hlx
  go_enter Tryz.func201, Tryz.ntmps201
  go_wp2_with fail
  go_loopw [14, 15] (fun i j wr => ∃ p q : Nat, p ≤ q ∧ q ≤ lx ∧ i = .int .i64 ((a + p : Nat) : Int) ∧ j = .int .i64 ((a + q : Nat) : Int) ∧ (∀ (k x : Nat), X[k]? = some x → k < p → ¬ lt y x) ∧ (∀ (k x : Nat), X[k]? = some x → q ≤ k → lt y x) ∧ Stp g w (P ++ X ++ [y] ++ S) wr) (fun i j _ => (intOf j).toNat - (intOf i).toNat)
  case atStart => exact ⟨0, lx, by omega, by omega, by simp, by rw [hm], fun k x _ h => by omega, fun k x hk h => by have := (List.getElem?_eq_some_iff.1 hk).1; have := HLX.out; omega, But.of_kept (Kept.refl _), HR.out⟩
  case round =>
    obtain ⟨p, q, hpq, hq, rfl, rfl, h1, h2, hst⟩ := hrel
    have H1 := Lib.hid h1
    have H2 := Lib.hid h2
    have HST := Lib.hid hst
    have hlx := HLX.out
    clear h1 h2 hst
    by_cases hlt : p < q
    · have d1 : decide (((a + p : Nat) : Int) < ((a + q : Nat) : Int)) = true := decide_eq_true (by omega)
      obtain ⟨th, hth⟩ : ∃ th, th = (p + q) / 2 := ⟨_, rfl⟩
      have ht1 : p ≤ th := by omega
      have ht2 : th < q := by omega
      obtain ⟨x, hx⟩ : ∃ x, X[th]? = some x := ⟨X[th]'(by omega), List.getElem?_eq_getElem (by omega)⟩
      have hxn := HX.out x (List.mem_of_getElem? hx)
      have hcx := HCF.out x (List.mem_of_getElem? hx)
      have cx := (HST.out.at (j := a + th) (o := x) (by
        rw [List.append_assoc, List.append_assoc, List.getElem?_append_right (by omega), ha]
        rw [show a + th - a = th by omega, List.getElem?_append_left (by omega)]
        exact hx)).1
      have cy := (HST.out.at (j := m) (o := y) (by
        rw [List.append_assoc, List.getElem?_append_right (by simp; omega)]
        rw [show m - (P ++ X).length = 0 by simp; omega]; rfl)).1
      have lc := cell_lt cx
      have HCq : RowKit.Hid (∀ r : Nat, Calls Tryz.prog 139 #[.int .i64 (y : Int), .int .i64 (x : Int), .pointer (some ⟨bc, 0, none⟩)] (wr.drewN r) fun e W' => e = .returned (.int .i64 (cf y x)) ∧ ∃ q', W' = (wr.drewN r).drewN q') := Lib.hid (fun r => HC.out _ (HST.out.drewB r) y x hy hxn)
      have hh : ((a : Int) + (p : Int) + ((a : Int) + (q : Int))) / 2 = ((a + th : Nat) : Int) := by omega
      have HXT := Lib.hid hx
      have HHT := Lib.hid hth
      have HCX := Lib.hid hcx
      have i1 : (0 : Int) ≤ ((a + th : Nat) : Int) := by omega
      have i2 : ((a + th : Nat) : Int) < (n : Int) := by omega
      have i3 : (0 : Int) ≤ (m : Int) := by omega
      have i4 : (m : Int) < (n : Int) := by omega
      clear hx hth hcx hlx
      go_upto_region 17 with (fail)
      try rw [hh]
      go_cut [103] (fun v wx => v = .bool (!decide (cf y x < 0)) ∧ ∃ r, wx = wr.drewN r)
      case first =>
        go_quiet ((go_at_call 139; with_reducible exact Calls.quiet_of (HCq.out _)))
        go_wp2
        go_meet
        exact ⟨by first | rfl | (simp; done), _, rfl⟩
      obtain ⟨rfl, r, rfl⟩ := hcut
      obtain ⟨bv, hbv⟩ : ∃ bv, bv = !decide (cf y x < 0) := ⟨_, rfl⟩
      rw [← hbv]
      cases bv
      · have hcmp : cf y x < 0 := by simpa using hbv
        have HLT := Lib.hid (HCX.out.1 hcmp)
        clear hcmp hbv
        go_wp2
        go_roundw
        case rel => exact ⟨p, th, by omega, by omega, by first | rfl | trivial, by first | rfl | trivial | (congr 1; done) | (congr 1; omega), H1.out, fun k yk hk hkt => HTR.out th k x yk HXT.out hk hkt HLT.out, HST.out.drewN r⟩
        case measure => simp [intOf]; omega
      · have hcmp : ¬ cf y x < 0 := by simpa using hbv
        have HLT : RowKit.Hid (¬ lt y x) := Lib.hid (fun h => hcmp (HCX.out.2 h))
        have w1 : IntKind.i64.wrap ((a : Int) + (th : Int) + 1) = (a : Int) + (th : Int) + 1 := IntWalk.i64_in _ (by omega)
        clear hcmp hbv
        go_wp2
        go_roundw
        case rel => exact ⟨th + 1, q, by omega, hq, by first | rfl | trivial | (congr 1; done) | (congr 1; omega), by first | rfl | trivial, fun k yk hk hkt h => HLT.out (HTR.out k th yk x hk HXT.out (by omega) h), H2.out, HST.out.drewN r⟩
        case measure => simp [intOf]; omega
    · obtain rfl : p = q := by omega
      obtain ⟨ts, hts⟩ : ∃ ts, ts = p := ⟨_, rfl⟩
      rw [← hts] at H1 H2 hq ⊢
      clear hts hlt hpq
      go_wp2_with fail
      go_loopw [17] (fun kk wx => ∃ s : Nat, ts ≤ s ∧ s ≤ lx ∧ kk = .int .i64 ((a + s : Nat) : Int) ∧ Stp g w (P ++ X.take s ++ [y] ++ X.drop s ++ S) wx) (fun kk _ => (intOf kk).toNat)
      case atStart => exact ⟨lx, by omega, by omega, by rw [hm], by
        have h := HST.out
        have e3 : X.take lx = X := List.take_of_length_le (by omega)
        have e4 : X.drop lx = [] := List.drop_eq_nil_of_le (by omega)
        rw [e3, e4, List.append_nil]; exact h⟩
      case round =>
        obtain ⟨s, hs, hsx, rfl, hst⟩ := hrel
        by_cases hlt2 : ts < s
        · obtain ⟨s', rfl⟩ : ∃ s', s = s' + 1 := ⟨s - 1, by omega⟩
          obtain ⟨u, hu⟩ : ∃ u, X[s']? = some u := ⟨X[s']'(by omega), List.getElem?_eq_getElem (by omega)⟩
          have e3 : P ++ X.take (s' + 1) ++ [y] ++ X.drop (s' + 1) ++ S = (P ++ X.take s') ++ u :: ([] ++ y :: (X.drop (s' + 1) ++ S)) := by
            rw [List.take_succ, hu]
            simp
          have e4 : (P ++ X.take s') ++ y :: ([] ++ u :: (X.drop (s' + 1) ++ S)) = P ++ X.take s' ++ [y] ++ X.drop s' ++ S := by
            rw [List.drop_eq_getElem_cons (show s' < X.length by omega)]
            rw [List.getElem?_eq_getElem (show s' < X.length by omega)] at hu
            injection hu with hu
            rw [hu]
            simp
          rw [e3] at hst
          have hx' : (P ++ X.take s').length = a + s' := by rw [List.length_append, List.length_take]; omega
          have hS := fun W (h : Stp g w _ W) => Stp.swap2 (g := g) (w := w) (W := W) (L := P ++ X.take s') (M := []) (R := X.drop (s' + 1) ++ S) (u := u) (v := y) h (a + s') (a + s' + 1) hx' (by simp)
          rw [e4] at hS
          obtain ⟨c1, f1⟩ := hst.at (j := a + s') (o := u) (by rw [List.getElem?_append_right (by omega), hx', Nat.sub_self]; rfl)
          obtain ⟨c2, f2⟩ := hst.at (j := a + s' + 1) (o := y) (by rw [List.getElem?_append_right (by omega), hx', show a + s' + 1 - (a + s') = 1 by omega]; rfl)
          have lx' := cell_lt c1
          have HST2 := Lib.hid hst
          have HS := Lib.hid hS
          have d1 : decide (((a + ts : Nat) : Int) < ((a + (s' + 1) : Nat) : Int)) = true := decide_eq_true (by omega)
          have w1 : IntKind.i64.wrap ((a : Int) + ((s' : Int) + 1) - 1) = (a : Int) + (s' : Int) := by rw [show (a : Int) + ((s' : Int) + 1) - 1 = (a : Int) + (s' : Int) by omega]; exact IntWalk.i64_in _ (by omega)
          have i1 : (0 : Int) ≤ (a : Int) + (s' : Int) := by omega
          have i2 : (a : Int) + (s' : Int) < (n : Int) := by omega
          have i3 : (0 : Int) ≤ (a : Int) + ((s' : Int) + 1) := by omega
          have i4 : (a : Int) + ((s' : Int) + 1) < (n : Int) := by omega
          have t1 : ((a : Int) + (s' : Int)).toNat = a + s' := by omega
          have t2 : ((a : Int) + ((s' : Int) + 1)).toNat = a + s' + 1 := by omega
          have hne : a + s' ≠ a + s' + 1 := by omega
          clear hst hS e3 e4 hx' hu hlx
          go_upto_region 23 with (fail)
          go_region
          all_goals
            go_wp2
            go_roundw
            case rel => exact ⟨s', by omega, by omega, by first | rfl | trivial | (congr 1; done) | (congr 1; omega), (HS.out _ HST2.out).drew⟩
            case measure => simp [intOf]; omega
        · obtain rfl : s = ts := by omega
          have d1 : decide (((a + s : Nat) : Int) < ((a + s : Nat) : Int)) = false := decide_eq_false (by omega)
          clear hlx
          go_wp2
          refine bodyPost_ret (results_none rfl _ _ _) rfl ?_
          exact ⟨by first | rfl | trivial, s, hsx, H1.out, H2.out, hst⟩
end Go.Proofs.YtcjpecdnenemaaaGreatDoor
