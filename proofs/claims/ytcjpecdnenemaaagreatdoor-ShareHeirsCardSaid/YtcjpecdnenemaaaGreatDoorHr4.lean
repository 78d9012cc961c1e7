/- ShareHeirs: the law -/
import Derived.Test.YtcjpecdnenemaaaGreatDoorHr3
import Derived.Test.YtcjpecdnenemaaaGreatDoorPt1
namespace Go.Proofs.YtcjpecdnenemaaaGreatDoor
set_option linter.all false
open Go.RowKit Go.Shelf Go.Sort

theorem fl2_atE : ∀ (l : List (Int × Int)) (k : Nat) (p : Int × Int), l[k]? = some p → (fl2 l)[k * 2]? = some (.int .i64 p.1) ∧ (fl2 l)[k * 2 + 1]? = some (.int .i64 p.2)
  | [], k, p, h => by simp at h
  | q :: l, 0, p, h => by simp at h; subst h; simp [fl2]
  | q :: l, k + 1, p, h => by
    have := fl2_atE l k p (by simpa using h)
    have e : fl2 (q :: l) = .int .i64 q.1 :: .int .i64 q.2 :: fl2 l := by simp [fl2]
    rw [e, show (k + 1) * 2 = k * 2 + 1 + 1 by omega]
    simpa using this
theorem fracs_of {w : World} {g n : Nat} {es : List (Int × Int)} (hn : es.length = n) (hm : n ≤ 1000) (h : RowC w g (fl2 es)) : FracsA w (some ⟨g, 0, none⟩) n n es :=
  ⟨hn, Nat.le_refl _, by omega, fun _ => ⟨g, 0, rfl, fun i p hp => by
    obtain ⟨h1, h2⟩ := fl2_atE es i p hp
    rw [Nat.zero_add]
    exact ⟨(h _ _ h1).1, (h _ _ h2).1⟩⟩⟩

set_option maxRecDepth 100000 in
set_option maxHeartbeats 16000000 in
theorem heirs_any (sn sd total : Int) (A : Option Addr) (n c : Nat) (zs : List Int) (w : World) (hE : Env w) (hI : IntsA w A n c zs) :
    Calls Tryz.prog 13 #[.agg #[.int .i64 sn, .int .i64 sd], .int .i64 total, .slice A n c] w fun e w' => e = .returned (.bool true) ∧ Kept w w' := by
  obtain ⟨W0, hW0⟩ : ∃ W0, W0 = w.alloc (.cells #[.int .i64 sn, .int .i64 sd] 23) := ⟨_, rfl⟩
  have K0 : RowKit.Hid (Kept w W0) := Lib.hid (by rw [hW0]; exact (Kept.refl _).alloc _)
  have R0 : RowKit.Hid (RowC W0 w.heap.size [.int .i64 sn, .int .i64 sd]) := Lib.hid (by rw [hW0]; exact RowC.new w [.int .i64 sn, .int .i64 sd] 23)
  have HW := Lib.hid hW0
  have HI := Lib.hid (hI.kept K0.out)
  have HE := Lib.hid (hE.kept K0.out)
  have hnc := hI.2.1
  have hcm := hI.2.2.1
  clear hW0 hE hI
  by_cases h60 : 60 < n
  · have d1 : decide ((60 : Int) < (n : Int)) = true := decide_eq_true (by omega)
    go_enter Tryz.func13, Tryz.ntmps13
    go_upto_region 1 with (fail)
    rw [← HW.out]
    go_wp2_with fail
    refine (alive_any _ HE.out).mono ?_
    rintro e wz ⟨rfl, hkz⟩
    go_wp2
    go_ret
    exact ⟨rfl, K0.out.trans hkz⟩
  have d1 : decide ((60 : Int) < (n : Int)) = false := decide_eq_false (by omega)
  obtain ⟨s, hs⟩ : ∃ s, zs.sum = s := ⟨_, rfl⟩
  have HS := Lib.hid hs
  obtain ⟨ee, hee⟩ : ∃ ee, (divS sn sd zs).2 = ee := ⟨_, rfl⟩
  obtain ⟨ff, hff⟩ : ∃ ff, (sumOfS zs (inB total 0 1000000000)).2 = ff := ⟨_, rfl⟩
  have HEE := Lib.hid hee
  have HFF := Lib.hid hff
  clear hs hee hff
  by_cases he : ee = 0
  · subst he
    obtain ⟨g1, g2, g3, g4, g5, g6, g7, g8⟩ := div_ok HEE.out
    rw [HS.out] at g5 g6 g7
    have HPB : RowKit.Hid (∀ z ∈ zs, 0 ≤ z ∧ z ≤ 1000) := Lib.hid (fun z hz => by obtain ⟨i, hi⟩ := List.getElem?_of_mem hz; exact part_in g3 hi)
    have HV : RowKit.Hid (vld sn sd = true ∧ 1 ≤ sd ∧ 1 ≤ s ∧ s ≤ 40000) := Lib.hid ⟨g1, vld_pos g1, by omega, g6⟩
    have HTOT : RowKit.Hid (∀ x y : Int, sumS (shareL sn sd s zs) = (x, y, 0) → x = sn ∧ y = sd) := Lib.hid (fun x y h => shares_total g1 (by rw [HS.out]; omega) g8 (by rw [HS.out]; exact h))
    have HSH : RowKit.Hid (∀ z ∈ zs, (shareS sn sd s z).2.2 = 0) := Lib.hid (by rw [← HS.out]; exact g8)
    clear g1 g2 g3 g4 g5 g6 g7 g8
    by_cases hf : ff = 0
    · subst hf
      obtain ⟨k1, k2, k3, _, k5, k6⟩ := sumOf_ok HFF.out
      rw [HS.out] at k5 k6
      have HPB2 : RowKit.Hid (∀ z ∈ zs, 0 ≤ z ∧ z ≤ 1000) := Lib.hid (fun z hz => by obtain ⟨i, hi⟩ := List.getElem?_of_mem hz; exact part_in k2 hi)
      have HSB : RowKit.Hid (0 < s ∧ s ≤ 40000) := Lib.hid ⟨k5, k6⟩
      have HTT : RowKit.Hid (0 ≤ total ∧ total ≤ 1000000000) := Lib.hid (inB_iff.1 k1)
      clear k1 k2 k3 k5 k6
      have a0 := (R0.out 0 _ rfl).1
      have a1 := (R0.out 1 _ rfl).1
      have la := cell_lt a0
      go_enter Tryz.func13, Tryz.ntmps13
      go_upto_region 1 with (fail)
      rw [← HW.out]
      go_wp2_with fail
      refine (divide_yes A n c zs sn sd s HS.out HEE.out _ HI.out).mono ?_
      rintro e w1 ⟨g, rfl, hr1, hk1⟩
      have RG := Lib.hid hr1
      have K1 := Lib.hid hk1
      clear hr1 hk1 a0 a1 la
      go_wp2_with fail
      refine (whole_yes A n c zs total s HS.out HFF.out _ (HI.out.kept K1.out)).mono ?_
      rintro e w2 ⟨gw, ws, rfl, hws, hr2, hk2⟩
      have HWS := Lib.hid hws
      have RW := Lib.hid hr2
      have K2 := Lib.hid (K1.out.trans hk2)
      have RG2 := Lib.hid (RG.out.kept hk2)
      clear hws hr2 hk2
      go_wp2_with fail
      go_loopw [11, 44] (fun av i wr => ∃ (k : Nat) (q : Int), k ≤ n ∧ i = .int .i64 k ∧ av = .int .i64 q ∧ q = (zs.take k).sum ∧ Kept w2 wr) (fun _ i _ => n - (intOf i).toNat)
      case atStart => exact ⟨0, 0, by omega, by first | rfl | go_num, rfl, by simp, Kept.refl _⟩
      case round =>
        obtain ⟨k, q, hk, rfl, rfl, hq, hkr⟩ := hrel
        have HQ := Lib.hid hq
        have HKR := Lib.hid hkr
        have hqb := sumI_bd (M := 1000) (by omega) (zs.take k) (fun y hy => HPB.out y (List.mem_of_mem_take hy))
        rw [← hq, List.length_take] at hqb
        obtain ⟨q0, q1⟩ := hqb
        have q2 : q ≤ 60000 := by have : ((min k zs.length : Nat) : Int) ≤ 60 := by omega
                                  omega
        clear hq hkr q1
        by_cases hlt : k < n
        · obtain ⟨b, off, hA, hc⟩ := HI.out.2.2.2.2 (by omega)
          subst hA
          have hxl : k < zs.length := by rw [HI.out.1]; exact hlt
          obtain ⟨z, hz⟩ : ∃ z, zs[k]? = some z := ⟨zs[k]'hxl, List.getElem?_eq_getElem hxl⟩
          obtain ⟨z0, z1⟩ := HPB.out z (List.mem_of_getElem? hz)
          have c0 := ((K2.out.trans HKR.out).cells _ _ (cell_lt (hc k z hz))).trans (hc k z hz)
          have HSum := Lib.hid (show (zs.take (k + 1)).sum = (zs.take k).sum + z by rw [take_snoc' hz]; simp)
          clear hz hc
          go_wp2
          go_roundw
          case rel => exact ⟨k + 1, _, by omega, by go_num, rfl, by rw [HSum.out, ← HQ.out], HKR.out⟩
          case measure => simp [intOf]; omega
        · have hge : decide ((k : Int) < (n : Int)) = false := decide_eq_false (by omega)
          obtain ⟨wa, hwa⟩ : ∃ x, x = wr := ⟨_, rfl⟩
          subst hwa
          have hqs : q = s := by
            have ht : zs.take k = zs := List.take_of_length_le (by rw [HI.out.1]; omega)
            have h := HQ.out
            rw [ht, HS.out] at h
            exact h
          subst hqs
          have KA := Lib.hid (K2.out.trans HKR.out)
          have RG3 := Lib.hid (RG2.out.kept HKR.out)
          have HL := Lib.hid (show (shareL sn sd q zs).length = n by unfold shareL; rw [List.length_map, HI.out.1])
          have HFr := Lib.hid (fracs_of HL.out (by omega) RG3.out)
          obtain ⟨⟨sx, sy, sz⟩, hsx⟩ : ∃ r, sumS (shareL sn sd q zs) = r := ⟨_, rfl⟩
          have HSX := Lib.hid hsx
          have CS : RowKit.Hid (Calls Tryz.prog 34 #[.slice (some ⟨g, 0, none⟩) n n] wa fun e w' => e = .returned (.tuple #[.agg #[.int .i64 sx, .int .i64 sy], .int .i64 sz]) ∧ Kept wa w') := Lib.hid (by have := sum_any (some ⟨g, 0, none⟩) n n _ wa HFr.out; rw [hsx] at this; exact this)
          clear hsx
          go_wp2_with fail
          refine CS.out.mono ?_
          rintro e w3 ⟨rfl, hk3⟩
          have K3 := Lib.hid (KA.out.trans hk3)
          obtain ⟨W4, hW4⟩ : ∃ W, W = w3.alloc (.cells #[.int .i64 sx, .int .i64 sy] 23) := ⟨_, rfl⟩
          have R4 : RowKit.Hid (RowC W4 w3.heap.size [.int .i64 sx, .int .i64 sy]) := Lib.hid (by rw [hW4]; exact RowC.new w3 [.int .i64 sx, .int .i64 sy] 23)
          have KS4 : RowKit.Hid (Kept w3 W4) := Lib.hid (by rw [hW4]; exact (Kept.refl _).alloc _)
          have K4 := Lib.hid (K3.out.trans KS4.out)
          have HK4E := Lib.hid (HKR.out.trans (hk3.trans KS4.out))
          have RG4 := Lib.hid (RG3.out.kept (hk3.trans KS4.out))
          have HW4 := Lib.hid hW4
          clear hW4 hk3
          go_upto_region 14 with (fail)
          rw [← HW4.out]
          have hnn : ((n : Int) != (n : Int)) = false := by simp
          have r0 := (R0.out.kept K4.out 0 _ rfl).1
          have r1 := (R0.out.kept K4.out 1 _ rfl).1
          have lr := cell_lt r0
          have t0 := (R4.out 0 _ rfl).1
          have t1 := (R4.out 1 _ rfl).1
          have lt := cell_lt t0
          go_cut [78] (fun v wx => v = .bool false ∧ Kept W4 wx)
          case first =>
            by_cases hz0 : sz = 0
            · obtain ⟨e1, e2⟩ := HTOT.out sx sy (by rw [HSX.out, hz0])
              subst e1 e2 hz0
              have he1 : ((sx : Int) != sx) = false := by simp
              have he2 : ((sy : Int) != sy) = false := by simp
              go_wp2
              go_meet
              exact ⟨by first | rfl | (simp; done), Kept.refl _⟩
            · have hz1 : (sz == 0) = false := by simpa using hz0
              go_wp2
              go_meet
              exact ⟨by first | rfl | (simp; done), Kept.refl _⟩
          obtain ⟨rfl, kx⟩ := hcut
          have K5 := Lib.hid (K4.out.trans kx)
          have HK5E := Lib.hid (HK4E.out.trans kx)
          have RG5 := Lib.hid (RG4.out.kept kx)
          obtain ⟨wb, hwb⟩ : ∃ x, x = wc := ⟨_, rfl⟩
          subst hwb
          clear kx r0 r1 lr t0 t1 lt
          go_wp2_with fail
          go_loopw [81] (fun i wr => ∃ k : Nat, k ≤ n ∧ i = .int .i64 k ∧ Kept wb wr) (fun i _ => n - (intOf i).toNat)
          case atStart => exact ⟨0, by omega, by first | rfl | go_num, Kept.refl _⟩
          case round =>
            obtain ⟨k2, hk2, rfl, hkr2⟩ := hrel
            have HKR2 := Lib.hid hkr2
            clear hkr2
            by_cases hlt2 : k2 < n
            · obtain ⟨b, off, hA, hc⟩ := HI.out.2.2.2.2 (by omega)
              subst hA
              have hxl : k2 < zs.length := by rw [HI.out.1]; exact hlt2
              obtain ⟨z, hz⟩ : ∃ z, zs[k2]? = some z := ⟨zs[k2]'hxl, List.getElem?_eq_getElem hxl⟩
              obtain ⟨z0, z1⟩ := HPB.out z (List.mem_of_getElem? hz)
              have c0 := ((K5.out.trans HKR2.out).cells _ _ (cell_lt (hc k2 z hz))).trans (hc k2 z hz)
              obtain ⟨⟨p1, p2⟩, hp0, hpv, hpe⟩ := share_one HV.out.2.1 HV.out.2.2.1 (HSH.out z (List.mem_of_getElem? hz))
              have hpl : (shareL sn sd q zs)[k2]? = some (p1, p2) := by unfold shareL; rw [List.getElem?_map, hz]; exact congrArg some hp0
              obtain ⟨f0, f1⟩ := fl2_atE _ k2 _ hpl
              have g0 := ((RG5.out.kept HKR2.out) _ _ f0).1
              have g1 := ((RG5.out.kept HKR2.out) _ _ f1).1
              have lg := cell_lt g0
              have HPV := Lib.hid hpv
              have HPE := Lib.hid hpe
              have hk0 : (0 : Int) ≤ (k2 : Int) := by omega
              have hk1 : (k2 : Int) < (n : Int) := by omega
              obtain ⟨⟨x, y, h⟩, hx⟩ : ∃ r, mulS p1 p2 q 1 = r := ⟨_, rfl⟩
              obtain ⟨⟨x', y', j⟩, hx'⟩ : ∃ r, mulS sn sd z 1 = r := ⟨_, rfl⟩
              have HX := Lib.hid hx
              have HX' := Lib.hid hx'
              have CM : RowKit.Hid (∀ W, Calls Tryz.prog 31 #[.agg #[.int .i64 p1, .int .i64 p2], .agg #[.int .i64 q, .int .i64 1]] W fun e w' => e = .returned (.tuple #[.agg #[.int .i64 x, .int .i64 y], .int .i64 h]) ∧ Kept W w') := Lib.hid (fun W => by have := mul_any p1 p2 q 1 W; rw [hx] at this; exact this)
              have CM' : RowKit.Hid (∀ W, Calls Tryz.prog 31 #[.agg #[.int .i64 sn, .int .i64 sd], .agg #[.int .i64 z, .int .i64 1]] W fun e w' => e = .returned (.tuple #[.agg #[.int .i64 x', .int .i64 y'], .int .i64 j]) ∧ Kept W w') := Lib.hid (fun W => by have := mul_any sn sd z 1 W; rw [hx'] at this; exact this)
              have HZK : RowKit.Hid (∀ (_ : Nat) (_ : Int), zs[k2]? = some z) := Lib.hid (fun _ _ => hz)
              have HP0 := Lib.hid hp0
              clear hx hx' hz hc hp0 hpv hpe hpl f0 f1
              go_wp2_with fail
              refine (CM.out _).mono ?_
              rintro e w5 ⟨rfl, hk5⟩
              obtain ⟨W6, hW6⟩ : ∃ W, W = w5.alloc (.cells #[.int .i64 x, .int .i64 y] 23) := ⟨_, rfl⟩
              have R6 : RowKit.Hid (RowC W6 w5.heap.size [.int .i64 x, .int .i64 y]) := Lib.hid (by rw [hW6]; exact RowC.new w5 [.int .i64 x, .int .i64 y] 23)
              have K6 : RowKit.Hid (Kept wb W6) := Lib.hid ((HKR2.out.trans hk5).trans (by rw [hW6]; exact (Kept.refl _).alloc _))
              have HW6 := Lib.hid hW6
              clear hW6 hk5 g0 g1 lg c0
              go_upto_region 20 with (fail)
              rw [← HW6.out]
              have r0 := (R0.out.kept (K5.out.trans K6.out) 0 _ rfl).1
              have r1 := (R0.out.kept (K5.out.trans K6.out) 1 _ rfl).1
              have lr := cell_lt r0
              go_wp2_with fail
              refine (CM'.out _).mono ?_
              rintro e w7 ⟨rfl, hk7⟩
              obtain ⟨W8, hW8⟩ : ∃ W, W = w7.alloc (.cells #[.int .i64 x', .int .i64 y'] 23) := ⟨_, rfl⟩
              have R8 : RowKit.Hid (RowC W8 w7.heap.size [.int .i64 x', .int .i64 y']) := Lib.hid (by rw [hW8]; exact RowC.new w7 [.int .i64 x', .int .i64 y'] 23)
              have KS8 : RowKit.Hid (Kept w7 W8) := Lib.hid (by rw [hW8]; exact (Kept.refl _).alloc _)
              have K8 : RowKit.Hid (Kept wb W8) := Lib.hid ((K6.out.trans hk7).trans KS8.out)
              have R68 := Lib.hid (R6.out.kept (hk7.trans KS8.out))
              have HW8 := Lib.hid hW8
              clear hW8 hk7 r0 r1 lr
              go_upto_region 21 with (fail)
              rw [← HW8.out]
              have hpl : (shareL sn sd q zs)[k2]? = some (p1, p2) := by
                unfold shareL
                rw [List.getElem?_map, HZK.out k2 z]
                exact congrArg some HP0.out
              obtain ⟨f0, f1⟩ := fl2_atE _ k2 _ hpl
              have g0 := ((RG5.out.kept K8.out) _ _ f0).1
              have g1 := ((RG5.out.kept K8.out) _ _ f1).1
              have lg := cell_lt g0
              have r0 := (R0.out.kept (K5.out.trans K8.out) 0 _ rfl).1
              have r1 := (R0.out.kept (K5.out.trans K8.out) 1 _ rfl).1
              have lr := cell_lt r0
              have u0 := (R68.out 0 _ rfl).1
              have u1 := (R68.out 1 _ rfl).1
              have lu := cell_lt u0
              have v0 := (R8.out 0 _ rfl).1
              have v1 := (R8.out 1 _ rfl).1
              have lv := cell_lt v0
              clear hpl f0 f1
              go_cut [129] (fun v wx => v = .bool false ∧ Kept W8 wx)
              case first =>
                have hzero : 0 < sn → (p1 = 0 ↔ z = 0) := fun h0 => share_zero HV.out.2.1 HV.out.2.2.1 HPV.out HPE.out h0
                have hmul : h = 0 → j = 0 → x = x' ∧ y = y' := fun h0 j0 => share_mul HV.out.1 HV.out.2.2.1 HV.out.2.2.2 z0 z1 HPV.out HPE.out (by rw [HX.out, h0]) (by rw [HX'.out, j0])
                by_cases hh : h = 0
                · by_cases hj : j = 0
                  · obtain ⟨e1, e2⟩ := hmul hh hj
                    subst e1 e2 hh hj
                    have he1 : ((x : Int) != x) = false := by simp
                    have he2 : ((y : Int) != y) = false := by simp
                    clear hmul
                    by_cases hzz : z = 0
                    · by_cases hpz : p1 = 0
                      · subst hzz hpz
                        go_wp2
                        go_meet
                        exact ⟨by first | rfl | (simp; done), Kept.refl _⟩
                      · have hpz1 : (p1 == 0) = false := by simpa using hpz
                        have hsn : decide ((0 : Int) < sn) = false := decide_eq_false (fun h0 => hpz ((hzero h0).2 hzz))
                        subst hzz
                        clear hzero
                        go_wp2
                        go_meet
                        exact ⟨by first | rfl | (simp; done), Kept.refl _⟩
                    · have hzz1 : (z == 0) = false := by simpa using hzz
                      by_cases hpz : p1 = 0
                      · have hsn : decide ((0 : Int) < sn) = false := decide_eq_false (fun h0 => hzz ((hzero h0).1 hpz))
                        subst hpz
                        clear hzero
                        go_wp2
                        go_meet
                        exact ⟨by first | rfl | (simp; done), Kept.refl _⟩
                      · have hpz1 : (p1 == 0) = false := by simpa using hpz
                        clear hzero
                        go_wp2
                        go_meet
                        exact ⟨by first | rfl | (simp; done), Kept.refl _⟩
                  · have hj1 : (j == 0) = false := by simpa using hj
                    subst hh
                    clear hmul
                    by_cases hzz : z = 0
                    · by_cases hpz : p1 = 0
                      · subst hzz hpz
                        go_wp2
                        go_meet
                        exact ⟨by first | rfl | (simp; done), Kept.refl _⟩
                      · have hpz1 : (p1 == 0) = false := by simpa using hpz
                        have hsn : decide ((0 : Int) < sn) = false := decide_eq_false (fun h0 => hpz ((hzero h0).2 hzz))
                        subst hzz
                        clear hzero
                        go_wp2
                        go_meet
                        exact ⟨by first | rfl | (simp; done), Kept.refl _⟩
                    · have hzz1 : (z == 0) = false := by simpa using hzz
                      by_cases hpz : p1 = 0
                      · have hsn : decide ((0 : Int) < sn) = false := decide_eq_false (fun h0 => hzz ((hzero h0).1 hpz))
                        subst hpz
                        clear hzero
                        go_wp2
                        go_meet
                        exact ⟨by first | rfl | (simp; done), Kept.refl _⟩
                      · have hpz1 : (p1 == 0) = false := by simpa using hpz
                        clear hzero
                        go_wp2
                        go_meet
                        exact ⟨by first | rfl | (simp; done), Kept.refl _⟩
                · have hh1 : (h == 0) = false := by simpa using hh
                  clear hmul
                  by_cases hzz : z = 0
                  · by_cases hpz : p1 = 0
                    · subst hzz hpz
                      go_wp2
                      go_meet
                      exact ⟨by first | rfl | (simp; done), Kept.refl _⟩
                    · have hpz1 : (p1 == 0) = false := by simpa using hpz
                      have hsn : decide ((0 : Int) < sn) = false := decide_eq_false (fun h0 => hpz ((hzero h0).2 hzz))
                      subst hzz
                      clear hzero
                      go_wp2
                      go_meet
                      exact ⟨by first | rfl | (simp; done), Kept.refl _⟩
                  · have hzz1 : (z == 0) = false := by simpa using hzz
                    by_cases hpz : p1 = 0
                    · have hsn : decide ((0 : Int) < sn) = false := decide_eq_false (fun h0 => hzz ((hzero h0).1 hpz))
                      subst hpz
                      clear hzero
                      go_wp2
                      go_meet
                      exact ⟨by first | rfl | (simp; done), Kept.refl _⟩
                    · have hpz1 : (p1 == 0) = false := by simpa using hpz
                      clear hzero
                      go_wp2
                      go_meet
                      exact ⟨by first | rfl | (simp; done), Kept.refl _⟩
              obtain ⟨rfl, kx⟩ := hcut
              have KX := Lib.hid (K8.out.trans kx)
              clear kx g0 g1 lg r0 r1 lr u0 u1 lu v0 v1 lv
              go_wp2
              go_roundw
              case rel => exact ⟨k2 + 1, by omega, by go_num, KX.out⟩
              case measure => simp [intOf]; omega
            · have hge2 : decide ((k2 : Int) < (n : Int)) = false := decide_eq_false (by omega)
              obtain ⟨wd, hwd⟩ : ∃ x, x = wr := ⟨_, rfl⟩
              subst hwd
              have KD := Lib.hid (K5.out.trans HKR2.out)
              have HK2E := Lib.hid (HK5E.out.trans HKR2.out)
              have RWc := Lib.hid (RW.out.kept HK2E.out)
              have hnn2 : ((n : Int) != (n : Int)) = false := by simp
              have HWN := Lib.hid (fun (v : Int) (hv : v ∈ ws) => show 0 ≤ v by
                obtain ⟨i, hi⟩ := List.getElem?_of_mem hv
                have hil : i < zs.length := by rw [← HWS.out.1]; exact (List.getElem?_eq_some_iff.1 hi).1
                obtain ⟨v', h1, h2, _⟩ := HWS.out.2.2 i _ (List.getElem?_eq_getElem hil)
                rw [hi] at h1
                injection h1 with h1
                rw [h1]; exact h2)
              obtain ⟨t0, t1⟩ := HTT.out
              obtain ⟨s0, s1⟩ := HSB.out
              go_wp2_with fail
              go_loopw [22, 141] (fun lv i wr => ∃ (k : Nat) (q3 : Int), k ≤ n ∧ i = .int .i64 k ∧ lv = .int .i64 q3 ∧ q3 = total - (ws.take k).sum ∧ Kept wd wr) (fun _ i _ => n - (intOf i).toNat)
              case atStart => exact ⟨0, total, by omega, by first | rfl | go_num, rfl, by simp, Kept.refl _⟩
              case round =>
                obtain ⟨k3, q3, hk3, rfl, rfl, hq3, hkr3⟩ := hrel
                have HQ3 := Lib.hid hq3
                have HKR3 := Lib.hid hkr3
                have htb := take_sum HWN.out k3
                rw [HWS.out.2.1] at htb
                obtain ⟨tb0, tb1⟩ := htb
                have q30 : 0 ≤ q3 := by omega
                have q31 : q3 ≤ 1000000000 := by omega
                clear hq3 hkr3 tb0 tb1
                by_cases hlt3 : k3 < n
                · obtain ⟨b, off, hA, hc⟩ := HI.out.2.2.2.2 (by omega)
                  subst hA
                  have hxl : k3 < zs.length := by rw [HI.out.1]; exact hlt3
                  obtain ⟨z, hz⟩ : ∃ z, zs[k3]? = some z := ⟨zs[k3]'hxl, List.getElem?_eq_getElem hxl⟩
                  obtain ⟨z0, z1⟩ := HPB.out z (List.mem_of_getElem? hz)
                  obtain ⟨v, hv, v0, v1, o0, o1⟩ := HWS.out.2.2 k3 z hz
                  have c0 := ((KD.out.trans HKR3.out).cells _ _ (cell_lt (hc k3 z hz))).trans (hc k3 z hz)
                  have y0 := ((RWc.out.kept HKR3.out) k3 _ (intsV_at hv)).1
                  have ly := cell_lt y0
                  have HSum := Lib.hid (show (ws.take (k3 + 1)).sum = (ws.take k3).sum + v by rw [take_snoc' hv]; simp)
                  obtain ⟨m1, m2⟩ := mul_bd (n := v) (d := q) 1000000000 40000 (by omega) (by omega) (by omega) (by omega) (by omega)
                  obtain ⟨m3, m4⟩ := mul_bd (n := total) (d := z) 1000000000 1000 (by omega) (by omega) (by omega) (by omega) (by omega)
                  have hk0 : (0 : Int) ≤ (k3 : Int) := by omega
                  have hk1 : (k3 : Int) < (n : Int) := by omega
                  have dv : decide (v < 0) = false := decide_eq_false (by omega)
                  clear hz hc hv
                  go_wp2
                  go_roundw
                  case rel => exact ⟨k3 + 1, _, by omega, by go_num, rfl, by rw [HSum.out, HQ3.out]; omega, HKR3.out⟩
                  case measure => simp [intOf]; omega
                · have hge3 : decide ((k3 : Int) < (n : Int)) = false := decide_eq_false (by omega)
                  have hq0 : q3 = 0 := by
                    have ht : ws.take k3 = ws := List.take_of_length_le (by rw [HWS.out.1, HI.out.1]; omega)
                    have h := HQ3.out
                    rw [ht, HWS.out.2.1] at h
                    omega
                  subst hq0
                  obtain ⟨we, hwe⟩ : ∃ x, x = wr := ⟨_, rfl⟩
                  subst hwe
                  have KE := Lib.hid (KD.out.trans HKR3.out)
                  go_wp2_with fail
                  refine (alive_any _ (HE.out.kept KE.out)).mono ?_
                  rintro e wz ⟨rfl, hkz⟩
                  go_wp2
                  go_ret
                  exact ⟨by first | rfl | (simp; done), K0.out.trans (KE.out.trans hkz)⟩
    · have CF : RowKit.Hid (∀ W, Kept W0 W → Calls Tryz.prog 72 #[.int .i64 total, .slice A n c] W fun e w' => e = .returned (.tuple #[.slice none 0 0, .int .i64 ff]) ∧ Kept W w') := Lib.hid (fun W hW => by rw [← HFF.out]; exact whole_no A n c zs total (by rw [HFF.out]; exact hf) W (HI.out.kept hW))
      have hf1 : (ff == 0) = false := by simpa using hf
      clear hf
      have a0 := (R0.out 0 _ rfl).1
      have a1 := (R0.out 1 _ rfl).1
      have la := cell_lt a0
      go_enter Tryz.func13, Tryz.ntmps13
      go_upto_region 1 with (fail)
      rw [← HW.out]
      go_wp2_with fail
      refine (divide_yes A n c zs sn sd s HS.out HEE.out _ HI.out).mono ?_
      rintro e w1 ⟨g, rfl, hr1, hk1⟩
      have RG := Lib.hid hr1
      have K1 := Lib.hid hk1
      clear hr1 hk1 a0 a1 la
      go_wp2_with fail
      refine (CF.out _ K1.out).mono ?_
      rintro e w2 ⟨rfl, hk2⟩
      have K2 := Lib.hid (K1.out.trans hk2)
      have RG2 := Lib.hid (RG.out.kept hk2)
      clear hk2
      go_wp2_with fail
      go_loopw [11, 44] (fun av i wr => ∃ (k : Nat) (q : Int), k ≤ n ∧ i = .int .i64 k ∧ av = .int .i64 q ∧ q = (zs.take k).sum ∧ Kept w2 wr) (fun _ i _ => n - (intOf i).toNat)
      case atStart => exact ⟨0, 0, by omega, by first | rfl | go_num, rfl, by simp, Kept.refl _⟩
      case round =>
        obtain ⟨k, q, hk, rfl, rfl, hq, hkr⟩ := hrel
        have HQ := Lib.hid hq
        have HKR := Lib.hid hkr
        have hqb := sumI_bd (M := 1000) (by omega) (zs.take k) (fun y hy => HPB.out y (List.mem_of_mem_take hy))
        rw [← hq, List.length_take] at hqb
        obtain ⟨q0, q1⟩ := hqb
        have q2 : q ≤ 60000 := by have : ((min k zs.length : Nat) : Int) ≤ 60 := by omega
                                  omega
        clear hq hkr q1
        by_cases hlt : k < n
        · obtain ⟨b, off, hA, hc⟩ := HI.out.2.2.2.2 (by omega)
          subst hA
          have hxl : k < zs.length := by rw [HI.out.1]; exact hlt
          obtain ⟨z, hz⟩ : ∃ z, zs[k]? = some z := ⟨zs[k]'hxl, List.getElem?_eq_getElem hxl⟩
          obtain ⟨z0, z1⟩ := HPB.out z (List.mem_of_getElem? hz)
          have c0 := ((K2.out.trans HKR.out).cells _ _ (cell_lt (hc k z hz))).trans (hc k z hz)
          have HSum := Lib.hid (show (zs.take (k + 1)).sum = (zs.take k).sum + z by rw [take_snoc' hz]; simp)
          clear hz hc
          go_wp2
          go_roundw
          case rel => exact ⟨k + 1, _, by omega, by go_num, rfl, by rw [HSum.out, ← HQ.out], HKR.out⟩
          case measure => simp [intOf]; omega
        · have hge : decide ((k : Int) < (n : Int)) = false := decide_eq_false (by omega)
          obtain ⟨wa, hwa⟩ : ∃ x, x = wr := ⟨_, rfl⟩
          subst hwa
          have hqs : q = s := by
            have ht : zs.take k = zs := List.take_of_length_le (by rw [HI.out.1]; omega)
            have h := HQ.out
            rw [ht, HS.out] at h
            exact h
          subst hqs
          have KA := Lib.hid (K2.out.trans HKR.out)
          have RG3 := Lib.hid (RG2.out.kept HKR.out)
          have HL := Lib.hid (show (shareL sn sd q zs).length = n by unfold shareL; rw [List.length_map, HI.out.1])
          have HFr := Lib.hid (fracs_of HL.out (by omega) RG3.out)
          obtain ⟨⟨sx, sy, sz⟩, hsx⟩ : ∃ r, sumS (shareL sn sd q zs) = r := ⟨_, rfl⟩
          have HSX := Lib.hid hsx
          have CS : RowKit.Hid (Calls Tryz.prog 34 #[.slice (some ⟨g, 0, none⟩) n n] wa fun e w' => e = .returned (.tuple #[.agg #[.int .i64 sx, .int .i64 sy], .int .i64 sz]) ∧ Kept wa w') := Lib.hid (by have := sum_any (some ⟨g, 0, none⟩) n n _ wa HFr.out; rw [hsx] at this; exact this)
          clear hsx
          go_wp2_with fail
          refine CS.out.mono ?_
          rintro e w3 ⟨rfl, hk3⟩
          have K3 := Lib.hid (KA.out.trans hk3)
          obtain ⟨W4, hW4⟩ : ∃ W, W = w3.alloc (.cells #[.int .i64 sx, .int .i64 sy] 23) := ⟨_, rfl⟩
          have R4 : RowKit.Hid (RowC W4 w3.heap.size [.int .i64 sx, .int .i64 sy]) := Lib.hid (by rw [hW4]; exact RowC.new w3 [.int .i64 sx, .int .i64 sy] 23)
          have KS4 : RowKit.Hid (Kept w3 W4) := Lib.hid (by rw [hW4]; exact (Kept.refl _).alloc _)
          have K4 := Lib.hid (K3.out.trans KS4.out)
          have HK4E := Lib.hid (HKR.out.trans (hk3.trans KS4.out))
          have RG4 := Lib.hid (RG3.out.kept (hk3.trans KS4.out))
          have HW4 := Lib.hid hW4
          clear hW4 hk3
          go_upto_region 14 with (fail)
          rw [← HW4.out]
          have hnn : ((n : Int) != (n : Int)) = false := by simp
          have r0 := (R0.out.kept K4.out 0 _ rfl).1
          have r1 := (R0.out.kept K4.out 1 _ rfl).1
          have lr := cell_lt r0
          have t0 := (R4.out 0 _ rfl).1
          have t1 := (R4.out 1 _ rfl).1
          have lt := cell_lt t0
          go_cut [78] (fun v wx => v = .bool false ∧ Kept W4 wx)
          case first =>
            by_cases hz0 : sz = 0
            · obtain ⟨e1, e2⟩ := HTOT.out sx sy (by rw [HSX.out, hz0])
              subst e1 e2 hz0
              have he1 : ((sx : Int) != sx) = false := by simp
              have he2 : ((sy : Int) != sy) = false := by simp
              go_wp2
              go_meet
              exact ⟨by first | rfl | (simp; done), Kept.refl _⟩
            · have hz1 : (sz == 0) = false := by simpa using hz0
              go_wp2
              go_meet
              exact ⟨by first | rfl | (simp; done), Kept.refl _⟩
          obtain ⟨rfl, kx⟩ := hcut
          have K5 := Lib.hid (K4.out.trans kx)
          have HK5E := Lib.hid (HK4E.out.trans kx)
          have RG5 := Lib.hid (RG4.out.kept kx)
          obtain ⟨wb, hwb⟩ : ∃ x, x = wc := ⟨_, rfl⟩
          subst hwb
          clear kx r0 r1 lr t0 t1 lt
          go_wp2_with fail
          go_loopw [81] (fun i wr => ∃ k : Nat, k ≤ n ∧ i = .int .i64 k ∧ Kept wb wr) (fun i _ => n - (intOf i).toNat)
          case atStart => exact ⟨0, by omega, by first | rfl | go_num, Kept.refl _⟩
          case round =>
            obtain ⟨k2, hk2, rfl, hkr2⟩ := hrel
            have HKR2 := Lib.hid hkr2
            clear hkr2
            by_cases hlt2 : k2 < n
            · obtain ⟨b, off, hA, hc⟩ := HI.out.2.2.2.2 (by omega)
              subst hA
              have hxl : k2 < zs.length := by rw [HI.out.1]; exact hlt2
              obtain ⟨z, hz⟩ : ∃ z, zs[k2]? = some z := ⟨zs[k2]'hxl, List.getElem?_eq_getElem hxl⟩
              obtain ⟨z0, z1⟩ := HPB.out z (List.mem_of_getElem? hz)
              have c0 := ((K5.out.trans HKR2.out).cells _ _ (cell_lt (hc k2 z hz))).trans (hc k2 z hz)
              obtain ⟨⟨p1, p2⟩, hp0, hpv, hpe⟩ := share_one HV.out.2.1 HV.out.2.2.1 (HSH.out z (List.mem_of_getElem? hz))
              have hpl : (shareL sn sd q zs)[k2]? = some (p1, p2) := by unfold shareL; rw [List.getElem?_map, hz]; exact congrArg some hp0
              obtain ⟨f0, f1⟩ := fl2_atE _ k2 _ hpl
              have g0 := ((RG5.out.kept HKR2.out) _ _ f0).1
              have g1 := ((RG5.out.kept HKR2.out) _ _ f1).1
              have lg := cell_lt g0
              have HPV := Lib.hid hpv
              have HPE := Lib.hid hpe
              have hk0 : (0 : Int) ≤ (k2 : Int) := by omega
              have hk1 : (k2 : Int) < (n : Int) := by omega
              obtain ⟨⟨x, y, h⟩, hx⟩ : ∃ r, mulS p1 p2 q 1 = r := ⟨_, rfl⟩
              obtain ⟨⟨x', y', j⟩, hx'⟩ : ∃ r, mulS sn sd z 1 = r := ⟨_, rfl⟩
              have HX := Lib.hid hx
              have HX' := Lib.hid hx'
              have CM : RowKit.Hid (∀ W, Calls Tryz.prog 31 #[.agg #[.int .i64 p1, .int .i64 p2], .agg #[.int .i64 q, .int .i64 1]] W fun e w' => e = .returned (.tuple #[.agg #[.int .i64 x, .int .i64 y], .int .i64 h]) ∧ Kept W w') := Lib.hid (fun W => by have := mul_any p1 p2 q 1 W; rw [hx] at this; exact this)
              have CM' : RowKit.Hid (∀ W, Calls Tryz.prog 31 #[.agg #[.int .i64 sn, .int .i64 sd], .agg #[.int .i64 z, .int .i64 1]] W fun e w' => e = .returned (.tuple #[.agg #[.int .i64 x', .int .i64 y'], .int .i64 j]) ∧ Kept W w') := Lib.hid (fun W => by have := mul_any sn sd z 1 W; rw [hx'] at this; exact this)
              have HZK : RowKit.Hid (∀ (_ : Nat) (_ : Int), zs[k2]? = some z) := Lib.hid (fun _ _ => hz)
              have HP0 := Lib.hid hp0
              clear hx hx' hz hc hp0 hpv hpe hpl f0 f1
              go_wp2_with fail
              refine (CM.out _).mono ?_
              rintro e w5 ⟨rfl, hk5⟩
              obtain ⟨W6, hW6⟩ : ∃ W, W = w5.alloc (.cells #[.int .i64 x, .int .i64 y] 23) := ⟨_, rfl⟩
              have R6 : RowKit.Hid (RowC W6 w5.heap.size [.int .i64 x, .int .i64 y]) := Lib.hid (by rw [hW6]; exact RowC.new w5 [.int .i64 x, .int .i64 y] 23)
              have K6 : RowKit.Hid (Kept wb W6) := Lib.hid ((HKR2.out.trans hk5).trans (by rw [hW6]; exact (Kept.refl _).alloc _))
              have HW6 := Lib.hid hW6
              clear hW6 hk5 g0 g1 lg c0
              go_upto_region 20 with (fail)
              rw [← HW6.out]
              have r0 := (R0.out.kept (K5.out.trans K6.out) 0 _ rfl).1
              have r1 := (R0.out.kept (K5.out.trans K6.out) 1 _ rfl).1
              have lr := cell_lt r0
              go_wp2_with fail
              refine (CM'.out _).mono ?_
              rintro e w7 ⟨rfl, hk7⟩
              obtain ⟨W8, hW8⟩ : ∃ W, W = w7.alloc (.cells #[.int .i64 x', .int .i64 y'] 23) := ⟨_, rfl⟩
              have R8 : RowKit.Hid (RowC W8 w7.heap.size [.int .i64 x', .int .i64 y']) := Lib.hid (by rw [hW8]; exact RowC.new w7 [.int .i64 x', .int .i64 y'] 23)
              have KS8 : RowKit.Hid (Kept w7 W8) := Lib.hid (by rw [hW8]; exact (Kept.refl _).alloc _)
              have K8 : RowKit.Hid (Kept wb W8) := Lib.hid ((K6.out.trans hk7).trans KS8.out)
              have R68 := Lib.hid (R6.out.kept (hk7.trans KS8.out))
              have HW8 := Lib.hid hW8
              clear hW8 hk7 r0 r1 lr
              go_upto_region 21 with (fail)
              rw [← HW8.out]
              have hpl : (shareL sn sd q zs)[k2]? = some (p1, p2) := by
                unfold shareL
                rw [List.getElem?_map, HZK.out k2 z]
                exact congrArg some HP0.out
              obtain ⟨f0, f1⟩ := fl2_atE _ k2 _ hpl
              have g0 := ((RG5.out.kept K8.out) _ _ f0).1
              have g1 := ((RG5.out.kept K8.out) _ _ f1).1
              have lg := cell_lt g0
              have r0 := (R0.out.kept (K5.out.trans K8.out) 0 _ rfl).1
              have r1 := (R0.out.kept (K5.out.trans K8.out) 1 _ rfl).1
              have lr := cell_lt r0
              have u0 := (R68.out 0 _ rfl).1
              have u1 := (R68.out 1 _ rfl).1
              have lu := cell_lt u0
              have v0 := (R8.out 0 _ rfl).1
              have v1 := (R8.out 1 _ rfl).1
              have lv := cell_lt v0
              clear hpl f0 f1
              go_cut [129] (fun v wx => v = .bool false ∧ Kept W8 wx)
              case first =>
                have hzero : 0 < sn → (p1 = 0 ↔ z = 0) := fun h0 => share_zero HV.out.2.1 HV.out.2.2.1 HPV.out HPE.out h0
                have hmul : h = 0 → j = 0 → x = x' ∧ y = y' := fun h0 j0 => share_mul HV.out.1 HV.out.2.2.1 HV.out.2.2.2 z0 z1 HPV.out HPE.out (by rw [HX.out, h0]) (by rw [HX'.out, j0])
                by_cases hh : h = 0
                · by_cases hj : j = 0
                  · obtain ⟨e1, e2⟩ := hmul hh hj
                    subst e1 e2 hh hj
                    have he1 : ((x : Int) != x) = false := by simp
                    have he2 : ((y : Int) != y) = false := by simp
                    clear hmul
                    by_cases hzz : z = 0
                    · by_cases hpz : p1 = 0
                      · subst hzz hpz
                        go_wp2
                        go_meet
                        exact ⟨by first | rfl | (simp; done), Kept.refl _⟩
                      · have hpz1 : (p1 == 0) = false := by simpa using hpz
                        have hsn : decide ((0 : Int) < sn) = false := decide_eq_false (fun h0 => hpz ((hzero h0).2 hzz))
                        subst hzz
                        clear hzero
                        go_wp2
                        go_meet
                        exact ⟨by first | rfl | (simp; done), Kept.refl _⟩
                    · have hzz1 : (z == 0) = false := by simpa using hzz
                      by_cases hpz : p1 = 0
                      · have hsn : decide ((0 : Int) < sn) = false := decide_eq_false (fun h0 => hzz ((hzero h0).1 hpz))
                        subst hpz
                        clear hzero
                        go_wp2
                        go_meet
                        exact ⟨by first | rfl | (simp; done), Kept.refl _⟩
                      · have hpz1 : (p1 == 0) = false := by simpa using hpz
                        clear hzero
                        go_wp2
                        go_meet
                        exact ⟨by first | rfl | (simp; done), Kept.refl _⟩
                  · have hj1 : (j == 0) = false := by simpa using hj
                    subst hh
                    clear hmul
                    by_cases hzz : z = 0
                    · by_cases hpz : p1 = 0
                      · subst hzz hpz
                        go_wp2
                        go_meet
                        exact ⟨by first | rfl | (simp; done), Kept.refl _⟩
                      · have hpz1 : (p1 == 0) = false := by simpa using hpz
                        have hsn : decide ((0 : Int) < sn) = false := decide_eq_false (fun h0 => hpz ((hzero h0).2 hzz))
                        subst hzz
                        clear hzero
                        go_wp2
                        go_meet
                        exact ⟨by first | rfl | (simp; done), Kept.refl _⟩
                    · have hzz1 : (z == 0) = false := by simpa using hzz
                      by_cases hpz : p1 = 0
                      · have hsn : decide ((0 : Int) < sn) = false := decide_eq_false (fun h0 => hzz ((hzero h0).1 hpz))
                        subst hpz
                        clear hzero
                        go_wp2
                        go_meet
                        exact ⟨by first | rfl | (simp; done), Kept.refl _⟩
                      · have hpz1 : (p1 == 0) = false := by simpa using hpz
                        clear hzero
                        go_wp2
                        go_meet
                        exact ⟨by first | rfl | (simp; done), Kept.refl _⟩
                · have hh1 : (h == 0) = false := by simpa using hh
                  clear hmul
                  by_cases hzz : z = 0
                  · by_cases hpz : p1 = 0
                    · subst hzz hpz
                      go_wp2
                      go_meet
                      exact ⟨by first | rfl | (simp; done), Kept.refl _⟩
                    · have hpz1 : (p1 == 0) = false := by simpa using hpz
                      have hsn : decide ((0 : Int) < sn) = false := decide_eq_false (fun h0 => hpz ((hzero h0).2 hzz))
                      subst hzz
                      clear hzero
                      go_wp2
                      go_meet
                      exact ⟨by first | rfl | (simp; done), Kept.refl _⟩
                  · have hzz1 : (z == 0) = false := by simpa using hzz
                    by_cases hpz : p1 = 0
                    · have hsn : decide ((0 : Int) < sn) = false := decide_eq_false (fun h0 => hzz ((hzero h0).1 hpz))
                      subst hpz
                      clear hzero
                      go_wp2
                      go_meet
                      exact ⟨by first | rfl | (simp; done), Kept.refl _⟩
                    · have hpz1 : (p1 == 0) = false := by simpa using hpz
                      clear hzero
                      go_wp2
                      go_meet
                      exact ⟨by first | rfl | (simp; done), Kept.refl _⟩
              obtain ⟨rfl, kx⟩ := hcut
              have KX := Lib.hid (K8.out.trans kx)
              clear kx g0 g1 lg r0 r1 lr u0 u1 lu v0 v1 lv
              go_wp2
              go_roundw
              case rel => exact ⟨k2 + 1, by omega, by go_num, KX.out⟩
              case measure => simp [intOf]; omega
            · have hge2 : decide ((k2 : Int) < (n : Int)) = false := decide_eq_false (by omega)
              obtain ⟨wd, hwd⟩ : ∃ x, x = wr := ⟨_, rfl⟩
              subst hwd
              have KD := Lib.hid (K5.out.trans HKR2.out)
              have HK2E := Lib.hid (HK5E.out.trans HKR2.out)
              go_wp2_with fail
              refine (alive_any _ (HE.out.kept KD.out)).mono ?_
              rintro e wz ⟨rfl, hkz⟩
              go_wp2
              go_ret
              exact ⟨by first | rfl | (simp; done), K0.out.trans (KD.out.trans hkz)⟩
  · have CE : RowKit.Hid (∀ W, Kept W0 W → Calls Tryz.prog 70 #[.agg #[.int .i64 sn, .int .i64 sd], .slice A n c] W fun e w' => e = .returned (.tuple #[.slice none 0 0, .int .i64 ee]) ∧ Kept W w') := Lib.hid (fun W hW => by rw [← HEE.out]; exact divide_no A n c zs sn sd (by rw [HEE.out]; exact he) W (HI.out.kept hW))
    have he1 : (ee == 0) = false := by simpa using he
    clear he
    by_cases hf : ff = 0
    · subst hf
      obtain ⟨k1, k2, k3, _, k5, k6⟩ := sumOf_ok HFF.out
      rw [HS.out] at k5 k6
      have HPB : RowKit.Hid (∀ z ∈ zs, 0 ≤ z ∧ z ≤ 1000) := Lib.hid (fun z hz => by obtain ⟨i, hi⟩ := List.getElem?_of_mem hz; exact part_in k2 hi)
      have HSB : RowKit.Hid (0 < s ∧ s ≤ 40000) := Lib.hid ⟨k5, k6⟩
      have HTT : RowKit.Hid (0 ≤ total ∧ total ≤ 1000000000) := Lib.hid (inB_iff.1 k1)
      clear k1 k2 k3 k5 k6
      have a0 := (R0.out 0 _ rfl).1
      have a1 := (R0.out 1 _ rfl).1
      have la := cell_lt a0
      go_enter Tryz.func13, Tryz.ntmps13
      go_upto_region 1 with (fail)
      rw [← HW.out]
      go_wp2_with fail
      refine (CE.out _ (Kept.refl _)).mono ?_
      rintro e w1 ⟨rfl, hk1⟩
      have K1 := Lib.hid hk1
      clear hk1 a0 a1 la
      go_wp2_with fail
      refine (whole_yes A n c zs total s HS.out HFF.out _ (HI.out.kept K1.out)).mono ?_
      rintro e w2 ⟨gw, ws, rfl, hws, hr2, hk2⟩
      have HWS := Lib.hid hws
      have RW := Lib.hid hr2
      have K2 := Lib.hid (K1.out.trans hk2)
      clear hws hr2 hk2
      go_wp2_with fail
      go_loopw [11, 44] (fun av i wr => ∃ (k : Nat) (q : Int), k ≤ n ∧ i = .int .i64 k ∧ av = .int .i64 q ∧ q = (zs.take k).sum ∧ Kept w2 wr) (fun _ i _ => n - (intOf i).toNat)
      case atStart => exact ⟨0, 0, by omega, by first | rfl | go_num, rfl, by simp, Kept.refl _⟩
      case round =>
        obtain ⟨k, q, hk, rfl, rfl, hq, hkr⟩ := hrel
        have HQ := Lib.hid hq
        have HKR := Lib.hid hkr
        have hqb := sumI_bd (M := 1000) (by omega) (zs.take k) (fun y hy => HPB.out y (List.mem_of_mem_take hy))
        rw [← hq, List.length_take] at hqb
        obtain ⟨q0, q1⟩ := hqb
        have q2 : q ≤ 60000 := by have : ((min k zs.length : Nat) : Int) ≤ 60 := by omega
                                  omega
        clear hq hkr q1
        by_cases hlt : k < n
        · obtain ⟨b, off, hA, hc⟩ := HI.out.2.2.2.2 (by omega)
          subst hA
          have hxl : k < zs.length := by rw [HI.out.1]; exact hlt
          obtain ⟨z, hz⟩ : ∃ z, zs[k]? = some z := ⟨zs[k]'hxl, List.getElem?_eq_getElem hxl⟩
          obtain ⟨z0, z1⟩ := HPB.out z (List.mem_of_getElem? hz)
          have c0 := ((K2.out.trans HKR.out).cells _ _ (cell_lt (hc k z hz))).trans (hc k z hz)
          have HSum := Lib.hid (show (zs.take (k + 1)).sum = (zs.take k).sum + z by rw [take_snoc' hz]; simp)
          clear hz hc
          go_wp2
          go_roundw
          case rel => exact ⟨k + 1, _, by omega, by go_num, rfl, by rw [HSum.out, ← HQ.out], HKR.out⟩
          case measure => simp [intOf]; omega
        · have hge : decide ((k : Int) < (n : Int)) = false := decide_eq_false (by omega)
          obtain ⟨wa, hwa⟩ : ∃ x, x = wr := ⟨_, rfl⟩
          subst hwa
          have hqs : q = s := by
            have ht : zs.take k = zs := List.take_of_length_le (by rw [HI.out.1]; omega)
            have h := HQ.out
            rw [ht, HS.out] at h
            exact h
          subst hqs
          have KA := Lib.hid (K2.out.trans HKR.out)
          have RWc := Lib.hid (RW.out.kept HKR.out)
          have hnn2 : ((n : Int) != (n : Int)) = false := by simp
          have HWN := Lib.hid (fun (v : Int) (hv : v ∈ ws) => show 0 ≤ v by
            obtain ⟨i, hi⟩ := List.getElem?_of_mem hv
            have hil : i < zs.length := by rw [← HWS.out.1]; exact (List.getElem?_eq_some_iff.1 hi).1
            obtain ⟨v', h1, h2, _⟩ := HWS.out.2.2 i _ (List.getElem?_eq_getElem hil)
            rw [hi] at h1
            injection h1 with h1
            rw [h1]; exact h2)
          obtain ⟨t0, t1⟩ := HTT.out
          obtain ⟨s0, s1⟩ := HSB.out
          go_wp2_with fail
          go_loopw [22, 141] (fun lv i wr => ∃ (k : Nat) (q3 : Int), k ≤ n ∧ i = .int .i64 k ∧ lv = .int .i64 q3 ∧ q3 = total - (ws.take k).sum ∧ Kept wa wr) (fun _ i _ => n - (intOf i).toNat)
          case atStart => exact ⟨0, total, by omega, by first | rfl | go_num, rfl, by simp, Kept.refl _⟩
          case round =>
            obtain ⟨k3, q3, hk3, rfl, rfl, hq3, hkr3⟩ := hrel
            have HQ3 := Lib.hid hq3
            have HKR3 := Lib.hid hkr3
            have htb := take_sum HWN.out k3
            rw [HWS.out.2.1] at htb
            obtain ⟨tb0, tb1⟩ := htb
            have q30 : 0 ≤ q3 := by omega
            have q31 : q3 ≤ 1000000000 := by omega
            clear hq3 hkr3 tb0 tb1
            by_cases hlt3 : k3 < n
            · obtain ⟨b, off, hA, hc⟩ := HI.out.2.2.2.2 (by omega)
              subst hA
              have hxl : k3 < zs.length := by rw [HI.out.1]; exact hlt3
              obtain ⟨z, hz⟩ : ∃ z, zs[k3]? = some z := ⟨zs[k3]'hxl, List.getElem?_eq_getElem hxl⟩
              obtain ⟨z0, z1⟩ := HPB.out z (List.mem_of_getElem? hz)
              obtain ⟨v, hv, v0, v1, o0, o1⟩ := HWS.out.2.2 k3 z hz
              have c0 := ((KA.out.trans HKR3.out).cells _ _ (cell_lt (hc k3 z hz))).trans (hc k3 z hz)
              have y0 := ((RWc.out.kept HKR3.out) k3 _ (intsV_at hv)).1
              have ly := cell_lt y0
              have HSum := Lib.hid (show (ws.take (k3 + 1)).sum = (ws.take k3).sum + v by rw [take_snoc' hv]; simp)
              obtain ⟨m1, m2⟩ := mul_bd (n := v) (d := q) 1000000000 40000 (by omega) (by omega) (by omega) (by omega) (by omega)
              obtain ⟨m3, m4⟩ := mul_bd (n := total) (d := z) 1000000000 1000 (by omega) (by omega) (by omega) (by omega) (by omega)
              have hk0 : (0 : Int) ≤ (k3 : Int) := by omega
              have hk1 : (k3 : Int) < (n : Int) := by omega
              have dv : decide (v < 0) = false := decide_eq_false (by omega)
              clear hz hc hv
              go_wp2
              go_roundw
              case rel => exact ⟨k3 + 1, _, by omega, by go_num, rfl, by rw [HSum.out, HQ3.out]; omega, HKR3.out⟩
              case measure => simp [intOf]; omega
            · have hge3 : decide ((k3 : Int) < (n : Int)) = false := decide_eq_false (by omega)
              have hq0 : q3 = 0 := by
                have ht : ws.take k3 = ws := List.take_of_length_le (by rw [HWS.out.1, HI.out.1]; omega)
                have h := HQ3.out
                rw [ht, HWS.out.2.1] at h
                omega
              subst hq0
              obtain ⟨we, hwe⟩ : ∃ x, x = wr := ⟨_, rfl⟩
              subst hwe
              have KE := Lib.hid (KA.out.trans HKR3.out)
              go_wp2_with fail
              refine (alive_any _ (HE.out.kept KE.out)).mono ?_
              rintro e wz ⟨rfl, hkz⟩
              go_wp2
              go_ret
              exact ⟨by first | rfl | (simp; done), K0.out.trans (KE.out.trans hkz)⟩
    · have CF : RowKit.Hid (∀ W, Kept W0 W → Calls Tryz.prog 72 #[.int .i64 total, .slice A n c] W fun e w' => e = .returned (.tuple #[.slice none 0 0, .int .i64 ff]) ∧ Kept W w') := Lib.hid (fun W hW => by rw [← HFF.out]; exact whole_no A n c zs total (by rw [HFF.out]; exact hf) W (HI.out.kept hW))
      have hf1 : (ff == 0) = false := by simpa using hf
      clear hf
      have a0 := (R0.out 0 _ rfl).1
      have a1 := (R0.out 1 _ rfl).1
      have la := cell_lt a0
      go_enter Tryz.func13, Tryz.ntmps13
      go_upto_region 1 with (fail)
      rw [← HW.out]
      go_wp2_with fail
      refine (CE.out _ (Kept.refl _)).mono ?_
      rintro e w1 ⟨rfl, hk1⟩
      have K1 := Lib.hid hk1
      clear hk1 a0 a1 la
      go_wp2_with fail
      refine (CF.out _ K1.out).mono ?_
      rintro e w2 ⟨rfl, hk2⟩
      have K2 := Lib.hid (K1.out.trans hk2)
      clear hk2
      go_wp2_with fail
      go_loopw [44] (fun i wr => ∃ (k : Nat), k ≤ n ∧ i = .int .i64 k ∧ Kept w2 wr) (fun i _ => n - (intOf i).toNat)
      case atStart => exact ⟨0, by omega, by first | rfl | go_num, Kept.refl _⟩
      case round =>
        obtain ⟨k, hk, rfl, hkr⟩ := hrel
        have HKR := Lib.hid hkr
        clear hkr
        by_cases hlt : k < n
        · obtain ⟨b, off, hA, hc⟩ := HI.out.2.2.2.2 (by omega)
          subst hA
          have hxl : k < zs.length := by rw [HI.out.1]; exact hlt
          obtain ⟨z, hz⟩ : ∃ z, zs[k]? = some z := ⟨zs[k]'hxl, List.getElem?_eq_getElem hxl⟩
          have c0 := ((K2.out.trans HKR.out).cells _ _ (cell_lt (hc k z hz))).trans (hc k z hz)
          clear hz hc
          go_wp2
          go_roundw
          case rel => exact ⟨k + 1, by omega, by go_num, HKR.out⟩
          case measure => simp [intOf]; omega
        · have hge : decide ((k : Int) < (n : Int)) = false := decide_eq_false (by omega)
          obtain ⟨wa, hwa⟩ : ∃ x, x = wr := ⟨_, rfl⟩
          subst hwa
          have KA := Lib.hid (K2.out.trans HKR.out)
          go_wp2_with fail
          refine (alive_any _ (HE.out.kept KA.out)).mono ?_
          rintro e wz ⟨rfl, hkz⟩
          go_wp2
          go_ret
          exact ⟨by first | rfl | (simp; done), K0.out.trans (KA.out.trans hkz)⟩
end Go.Proofs.YtcjpecdnenemaaaGreatDoor
