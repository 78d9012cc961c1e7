/- slices' insertionSort, over a row of ints -/
import Derived.Test.YtcjpecdnenemaaaGreatDoorMs3
namespace Go.Proofs.YtcjpecdnenemaaaGreatDoor
set_option linter.all false
open Go.RowKit Go.Shelf

set_option maxRecDepth 100000 in
set_option maxHeartbeats 8000000 in
theorem insertion_any (g n c bc nn : Nat) (cf : Nat → Nat → Int) (lt : Nat → Nat → Prop) (tr : ∀ x y z, lt x y → lt y z → lt x z) (P X S : List Nat) (a b : Nat) (ha : P.length = a) (hb : a + X.length = b) (hn : b + S.length = n) (hX : 0 < X.length) (hnc : n ≤ c) (hc : c ≤ 1000)
    (hx : ∀ x ∈ X, x < nn) (hcf : ∀ (i j u v : Nat), X[i]? = some v → X[j]? = some u → i < j → ((cf u v < 0 ↔ lt u v) ∧ (¬ lt u v → lt v u)))
    (w : World) (hC : CmpG g bc nn cf w) (hr : RowC w g (natV (P ++ X ++ S))) :
    Calls Tryz.prog 200 #[.slice (some ⟨g, 0, none⟩) n c, .int .i64 a, .int .i64 b, (.func (.func 139) #[] #[.pointer (some ⟨bc, 0, none⟩)])] w fun e w' => e = .returned (.tuple #[]) ∧ ∃ Z, Z.Pairwise lt ∧ Z.Perm X ∧ Stp g w (P ++ Z ++ S) w' := by
  have HR := Lib.hid hr
  have HC := Lib.hid hC
  have HCF := Lib.hid hcf
  have HTR := Lib.hid tr
  have HX := Lib.hid hx
  have HPA := Lib.hid ha
  obtain ⟨lx, hlx⟩ : ∃ lx, lx = X.length := ⟨_, rfl⟩
  rw [← hlx] at hb hX
  have HLX := Lib.hid hlx
  clear hr hC hcf tr hx hlx ha
  have g139 := e139
  go_enter Tryz.func200, Tryz.ntmps200
  go_wp2_with fail
  go_loopw [8] (fun i wr => ∃ (k : Nat) (Z : List Nat), 1 ≤ k ∧ k ≤ lx ∧ i = .int .i64 ((a + k : Nat) : Int) ∧ Z.Pairwise lt ∧ Z.Perm (X.take k) ∧ Stp g w (P ++ Z ++ X.drop k ++ S) wr) (fun i _ => b - (intOf i).toNat)
  case atStart => exact ⟨1, X.take 1, by omega, by omega, by first | rfl | (congr 1; done) | (congr 1; omega), by
      rcases X with _ | ⟨x, X⟩
      · simp
      · simp, List.Perm.refl _, But.of_kept (Kept.refl _), by
      have h := HR.out
      rw [List.append_assoc P, List.take_append_drop]; exact h⟩
  case round =>
    obtain ⟨k, Z, hk1, hk2, rfl, hpw, hpm, hst⟩ := hrel
    have HPW := Lib.hid hpw
    have HPM := Lib.hid hpm
    have HST := Lib.hid hst
    clear hpw hpm hst
    by_cases hlt : k < lx
    · have d1 : decide (((a + k : Nat) : Int) < (b : Int)) = true := decide_eq_true (by omega)
      have hlx := HLX.out
      have hpa := HPA.out
      obtain ⟨u, hu⟩ : ∃ u, X[k]? = some u := ⟨X[k]'(by omega), List.getElem?_eq_getElem (by omega)⟩
      have HU := Lib.hid hu
      have hun := HX.out u (List.mem_of_getElem? hu)
      have hzl : Z.length = k := by rw [HPM.out.length_eq, List.length_take]; omega
      have HZL := Lib.hid hzl
      have HZ : RowKit.Hid (∀ z ∈ Z, z < nn ∧ (cf u z < 0 ↔ lt u z) ∧ (¬ lt u z → lt z u)) := Lib.hid (fun z hz => by
        have hm := HPM.out.mem_iff.1 hz
        obtain ⟨i, hi, rfl⟩ := List.mem_iff_getElem.1 hm
        rw [List.length_take] at hi
        rw [List.getElem_take]
        have h1 : X[i]? = some (X[i]'(by omega)) := List.getElem?_eq_getElem _
        exact ⟨HX.out _ (List.getElem_mem _), (HCF.out i k u _ h1 hu (by omega)).1, (HCF.out i k u _ h1 hu (by omega)).2⟩)
      have HST1 : RowKit.Hid (Stp g w (P ++ (Z.take k ++ [u] ++ Z.drop k) ++ X.drop (k + 1) ++ S) wr) := Lib.hid (by
        have h := HST.out
        have e1 : Z.take k = Z := List.take_of_length_le (by omega)
        have e2 : Z.drop k = [] := List.drop_eq_nil_of_le (by omega)
        rw [e1, e2]
        rw [List.drop_eq_getElem_cons (show k < X.length by omega)] at h
        rw [List.getElem?_eq_getElem (show k < X.length by omega)] at hu
        injection hu with hu
        rw [hu] at h
        simpa using h)
      clear hu hzl hlx hpa
      go_wp2_with fail
      go_loopw [9] (fun j wx => ∃ t : Nat, t ≤ k ∧ j = .int .i64 ((a + t : Nat) : Int) ∧ (∀ (i z : Nat), Z[i]? = some z → t ≤ i → lt u z) ∧ Stp g w (P ++ (Z.take t ++ [u] ++ Z.drop t) ++ X.drop (k + 1) ++ S) wx) (fun j _ => (intOf j).toNat)
      case atStart => exact ⟨k, by omega, by first | rfl | trivial, fun i z hz hi => by have := (List.getElem?_eq_some_iff.1 hz).1; have := HZL.out; omega, HST1.out⟩
      case round =>
        obtain ⟨t, ht, rfl, hgt, hst⟩ := hrel
        have HGT := Lib.hid hgt
        have HS2 := Lib.hid hst
        clear hgt hst
        have hdone : RowKit.Hid ((∀ (i z : Nat), Z[i]? = some z → i < t → lt z u) → (Z.take t ++ [u] ++ Z.drop t).Pairwise lt ∧ (Z.take t ++ [u] ++ Z.drop t).Perm (X.take (k + 1))) := Lib.hid (fun hlow => by
          have hzp : (Z.take t ++ Z.drop t).Pairwise lt := by rw [List.take_append_drop]; exact HPW.out
          obtain ⟨q1, q2, q3⟩ := List.pairwise_append.1 hzp
          constructor
          · rw [List.append_assoc, List.singleton_append]
            refine List.pairwise_append.2 ⟨q1, List.pairwise_cons.2 ⟨fun z hz => ?_, q2⟩, fun z hz z2 hz2 => ?_⟩
            · obtain ⟨i, hi, rfl⟩ := List.mem_iff_getElem.1 hz
              rw [List.getElem_drop]
              exact HGT.out (t + i) _ (List.getElem?_eq_getElem (by rw [List.length_drop] at hi; omega)) (by omega)
            · rcases List.mem_cons.1 hz2 with rfl | hz2
              · obtain ⟨i, hi, rfl⟩ := List.mem_iff_getElem.1 hz
                rw [List.length_take] at hi
                rw [List.getElem_take]
                exact hlow i _ (List.getElem?_eq_getElem (by omega)) (by omega)
              · exact q3 z hz z2 hz2
          · rw [List.take_succ, HU.out]
            have e1 : (Z.take t ++ [u] ++ Z.drop t).Perm ((Z.take t ++ Z.drop t) ++ [u]) := by
              rw [List.append_assoc, List.append_assoc]
              exact List.Perm.append_left _ List.perm_append_comm
            rw [List.take_append_drop] at e1
            exact e1.trans (HPM.out.append_right _))
        by_cases ht0 : t = 0
        · subst ht0
          have d2 : decide ((a : Int) < ((a + 0 : Nat) : Int)) = false := decide_eq_false (by omega)
          have HD := Lib.hid (hdone.out (fun i z _ h => by omega))
          clear hdone
          have w1 : IntKind.i64.wrap ((a : Int) + (k : Int) + 1) = (a : Int) + (k : Int) + 1 := IntWalk.i64_in _ (by omega)
          go_upto_region 4 with (fail)
          go_cut [34] (fun v wx => v = .bool false ∧ ∃ r, wx = wr.drewN r)
          case first =>
            go_quiet (fail)
            go_wp2
            go_meet
            exact ⟨by first | rfl | (simp; done), _, rfl⟩
          obtain ⟨rfl, r, rfl⟩ := hcut
          go_wp2
          go_roundw
          case rel => exact ⟨k + 1, _, by omega, by omega, by first | rfl | trivial | (congr 1; done) | (congr 1; omega), HD.out.1, HD.out.2, HS2.out.drewN r⟩
          case measure => simp [intOf]; omega
        · obtain ⟨s, rfl⟩ : ∃ s, t = s + 1 := ⟨t - 1, by omega⟩
          have hzl := HZL.out
          have hpa := HPA.out
          obtain ⟨z, hz⟩ : ∃ z, Z[s]? = some z := ⟨Z[s]'(by omega), List.getElem?_eq_getElem (by omega)⟩
          obtain ⟨hzn, hzc, hzt⟩ := HZ.out z (List.mem_of_getElem? hz)
          have e1 : P ++ (Z.take (s + 1) ++ [u] ++ Z.drop (s + 1)) ++ X.drop (k + 1) ++ S = (P ++ Z.take s) ++ z :: ([] ++ u :: (Z.drop (s + 1) ++ X.drop (k + 1) ++ S)) := by
            rw [List.take_succ, hz]
            simp
          have e2 : (P ++ Z.take s) ++ u :: ([] ++ z :: (Z.drop (s + 1) ++ X.drop (k + 1) ++ S)) = P ++ (Z.take s ++ [u] ++ Z.drop s) ++ X.drop (k + 1) ++ S := by
            rw [List.drop_eq_getElem_cons (show s < Z.length by omega)]
            have hz2 := hz
            rw [List.getElem?_eq_getElem (show s < Z.length by omega)] at hz2
            injection hz2 with hz2
            rw [hz2]
            simp
          have hst := HS2.out
          rw [e1] at hst
          have hx' : (P ++ Z.take s).length = a + s := by rw [List.length_append, List.length_take]; omega
          obtain ⟨c1, f1⟩ := hst.at (j := a + s) (o := z) (by rw [List.getElem?_append_right (by omega), hx', Nat.sub_self]; rfl)
          obtain ⟨c2, f2⟩ := hst.at (j := a + s + 1) (o := u) (by rw [List.getElem?_append_right (by omega), hx', show a + s + 1 - (a + s) = 1 by omega]; rfl)
          have lc := cell_lt c1
          have HCq : RowKit.Hid (∀ r : Nat, Calls Tryz.prog 139 #[.int .i64 (u : Int), .int .i64 (z : Int), .pointer (some ⟨bc, 0, none⟩)] (wr.drewN r) fun e W' => e = .returned (.int .i64 (cf u z)) ∧ ∃ q', W' = (wr.drewN r).drewN q') := Lib.hid (fun r => HC.out _ (hst.drewB r) u z hun hzn)
          have hS := fun (r : Nat) => Stp.swap2 (g := g) (w := w) (W := wr.drewN r) (L := P ++ Z.take s) (M := []) (R := Z.drop (s + 1) ++ X.drop (k + 1) ++ S) (u := z) (v := u) (hst.drewN r) (a + s) (a + s + 1) hx' (by simp)
          rw [e2] at hS
          have HS := Lib.hid hS
          have HZC := Lib.hid hzc
          have HZT := Lib.hid hzt
          have HZZ := Lib.hid hz
          have d2 : decide ((a : Int) < ((a + (s + 1) : Nat) : Int)) = true := decide_eq_true (by omega)
          have d3 : decide ((a : Int) < (a : Int) + ((s : Int) + 1)) = true := decide_eq_true (by omega)
          have w1 : IntKind.i64.wrap ((a : Int) + ((s : Int) + 1) - 1) = (a : Int) + (s : Int) := by rw [show (a : Int) + ((s : Int) + 1) - 1 = (a : Int) + (s : Int) by omega]; exact IntWalk.i64_in _ (by omega)
          have w2 : (a : Int) + ((s : Int) + 1) - 1 = (a : Int) + (s : Int) := by omega
          have i1 : (0 : Int) ≤ (a : Int) + (s : Int) := by omega
          have i2 : (a : Int) + (s : Int) < (n : Int) := by omega
          have i3 : (0 : Int) ≤ (a : Int) + ((s : Int) + 1) := by omega
          have i4 : (a : Int) + ((s : Int) + 1) < (n : Int) := by omega
          have t1 : ((a : Int) + (s : Int)).toNat = a + s := by omega
          have t2 : ((a : Int) + ((s : Int) + 1)).toNat = a + s + 1 := by omega
          have hne : a + s ≠ a + s + 1 := by omega
          clear hst hS e1 e2 hx' hz hzc hzt hzl hpa
          go_upto_region 4 with (fail)
          go_cut [34] (fun v wx => v = .bool (decide (cf u z < 0)) ∧ ∃ r, wx = wr.drewN r)
          case first =>
            go_quiet ((go_at_call 139; with_reducible exact Calls.quiet_of (HCq.out _)))
            go_wp2
            go_meet
            exact ⟨by first | rfl | (simp; done), _, rfl⟩
          obtain ⟨rfl, r, rfl⟩ := hcut
          obtain ⟨bv, hbv⟩ : ∃ bv, bv = decide (cf u z < 0) := ⟨_, rfl⟩
          rw [← hbv]
          cases bv
          · have hcmp : ¬ cf u z < 0 := of_decide_eq_false hbv.symm
            have HD := Lib.hid (hdone.out (fun i z' hz' hi => by
              have hzu : lt z u := HZT.out (fun h => hcmp (HZC.out.2 h))
              rcases Nat.lt_or_ge i s with hl | hl
              · obtain ⟨h1, rfl⟩ := List.getElem?_eq_some_iff.1 hz'
                obtain ⟨h2, e⟩ := List.getElem?_eq_some_iff.1 HZZ.out
                have := List.pairwise_iff_getElem.1 HPW.out i s h1 h2 hl
                rw [e] at this
                exact HTR.out _ _ _ this hzu
              · obtain rfl : i = s := by omega
                rw [HZZ.out] at hz'
                cases hz'
                exact hzu))
            clear hcmp hbv hdone
            have w3 : IntKind.i64.wrap ((a : Int) + (k : Int) + 1) = (a : Int) + (k : Int) + 1 := IntWalk.i64_in _ (by omega)
            go_wp2
            go_roundw
            case rel => exact ⟨k + 1, _, by omega, by omega, by first | rfl | trivial | (congr 1; done) | (congr 1; omega), HD.out.1, HD.out.2, HS2.out.drewN r⟩
            case measure => simp [intOf]; omega
          · have hcmp : cf u z < 0 := of_decide_eq_true hbv.symm
            have HLT := Lib.hid (HZC.out.1 hcmp)
            clear hcmp hbv hdone
            go_upto_region 6 with (fail)
            go_region
            all_goals
              go_wp2
              go_roundw
              case rel =>
                refine ⟨s, by omega, by first | rfl | trivial | (congr 1; done) | (congr 1; omega), fun i z' hz' hi => ?_, (HS.out r).drew⟩
                rcases Nat.lt_or_ge s i with hl | hl
                · exact HGT.out i z' hz' (by omega)
                · obtain rfl : i = s := by omega
                  rw [HZZ.out] at hz'
                  cases hz'
                  exact HLT.out
              case measure => simp [intOf]; omega
    · obtain rfl : k = lx := by omega
      have d1 : decide (((a + k : Nat) : Int) < (b : Int)) = false := decide_eq_false (by omega)
      have hlx := HLX.out
      have HPM2 : RowKit.Hid (Z.Perm X) := Lib.hid (by have h := HPM.out; rwa [List.take_of_length_le (by omega)] at h)
      have HS3 : RowKit.Hid (Stp g w (P ++ Z ++ S) wr) := Lib.hid (by have h := HST.out; rwa [List.drop_eq_nil_of_le (by omega), List.append_nil] at h)
      clear hlx
      go_wp2
      go_end0
      exact ⟨by first | rfl | trivial, Z, HPW.out, HPM2.out, HS3.out⟩
end Go.Proofs.YtcjpecdnenemaaaGreatDoor
