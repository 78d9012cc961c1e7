/- the reference's RateOf -/
import Derived.Test.YtjaicilnlgjdcaaWb
import Derived.Test.YtjaicilnlgjdcaaVb
namespace Go.Proofs.Ytjaicilnlgjdcaa
set_option linter.all false
open Go.RowKit Go.Shelf

theorem RcA.far {W : World} {A : Option Addr} {n c B j : Nat} {xs : List Rcn} {u : Value} (h : RcA W A n c xs) (hf : ∀ a, A = some a → B < a.block) : RcA (W.setCell ⟨B, j, none⟩ u) A n c xs :=
  ⟨h.1, h.2.1, h.2.2.1, fun hn => by
    obtain ⟨b, off, e, ht⟩ := h.2.2.2 hn
    have hb : B < b := hf _ e
    refine ⟨b, off, e, fun i x hx => ?_⟩
    obtain ⟨h0, h1, h2, h3, h4, h5⟩ := ht i x hx
    have hne : ∀ o, (W.setCell ⟨B, j, none⟩ u).cell? ⟨b, o, none⟩ = W.cell? ⟨b, o, none⟩ := fun o => World.cell?_setCell_far _ _ _ _ (by simp; omega)
    exact ⟨(hne _).trans h0, (hne _).trans h1, (hne _).trans h2, (hne _).trans h3, (hne _).trans h4, (hne _).trans h5⟩⟩
def shF (sh : Int) (l : List Rcn) : List Rcn := l.filter (fun x => decide (x.sh = sh))
theorem shF_ofS (xs : List Rcn) (known sh : Int) : shF sh (cntS xs known) = ofS xs known sh := rfl
theorem cntS_len (xs : List Rcn) (known : Int) : (cntS xs known).length ≤ xs.length := List.length_filter_le _ _

theorem allB_at {cs : List Rcn} {k : Nat} {x : Rcn} {sh : Int} (h : allB (shF sh cs) = true) (hx : cs[k]? = some x) (hs : x.sh = sh) : askB x = true := by
  unfold allB at h
  rw [List.all_eq_true] at h
  exact h x (List.mem_filter.2 ⟨List.mem_of_getElem? hx, by simpa using hs⟩)

set_option maxRecDepth 100000 in
set_option maxHeartbeats 4000000 in
theorem rrateOf_any (m d sh known : Int) (A : Option Addr) (n c : Nat) (xs : List Rcn) (w : World) (hT : RcA w A n c xs) (hlt : n ≤ 1000000) :
    Calls Try.prog 50 #[.agg #[.int .i64 m, .int .i64 d], .slice A n c, .int .i64 sh, .int .i64 known] w fun e w' => e = .returned (.tuple #[.agg #[.int .i64 (rateI m d xs sh known).1, .int .i64 (rateI m d xs sh known).2.1], .int .i64 (rateI m d xs sh known).2.2]) ∧ Kept w w' := by
  have HT := Lib.hid hT
  have hnc := hT.2.1
  have hcm := hT.2.2.1
  clear hT
  obtain ⟨W0, hW0⟩ : ∃ W0, W0 = (w.alloc (.cells #[.int .i64 m, .int .i64 d] 23)).alloc (.cells #[.int .i64 0, .int .i64 0] 23) := ⟨_, rfl⟩
  have K0 : RowKit.Hid (Kept w W0) := Lib.hid (by rw [hW0]; exact ((Kept.refl _).alloc _).alloc _)
  have r0 : RowC W0 w.heap.size [.int .i64 m, .int .i64 d] := by rw [hW0]; exact (RowC.new w [.int .i64 m, .int .i64 d] 23).kept ((Kept.refl _).alloc _)
  have r1 : RowC W0 (w.heap.size + 1) [.int .i64 0, .int .i64 0] := by rw [hW0]; exact RowC.atn (vs := [.int .i64 0, .int .i64 0]) (by simp)
  have Z0 : W0.heap.size = w.heap.size + 1 + 1 := by rw [hW0]; simp
  have ZZ := Lib.hid Z0
  have HW := Lib.hid hW0
  have R0 := Lib.hid r0
  have R1 := Lib.hid r1
  have c0 := (r0 0 _ rfl).1
  have c1 := (r0 1 _ rfl).1
  have e0 := (r1 0 _ rfl).1
  have e1 := (r1 1 _ rfl).1
  have g0 := (r1 0 _ rfl).2
  have g1 := (r1 1 _ rfl).2
  have b0 := cell_lt c0
  have b1 := cell_lt e0
  clear hW0 r0 r1 Z0
  obtain ⟨rb, hrb⟩ : ∃ rb, rb = rateB m d := ⟨_, rfl⟩
  have H21 : RowKit.Hid (∀ W, Calls Try.prog 21 #[.agg #[.int .i64 m, .int .i64 d]] W fun e w' => e = .returned (.int .i64 (errI rb)) ∧ Kept W w') := Lib.hid (fun W => by rw [hrb]; exact rrate_any m d W)
  obtain ⟨p, q, hpq⟩ : ∃ p q, crI xs = (p, q) := ⟨_, _, rfl⟩
  have H45 : RowKit.Hid (∀ W, Kept w W → Calls Try.prog 45 #[.slice A n c] W fun e w' => e = .returned (.tuple #[.int .i64 p, .int .i64 q]) ∧ Kept W w') := Lib.hid (fun W hW => by have := rcheckRecounts_any A n c xs W (HT.out.kept hW) hlt; rwa [hpq] at this)
  have HRB := Lib.hid hrb
  have HPQ := Lib.hid hpq
  clear hrb hpq
  cases rb
  · have HS : RowKit.Hid (rateI m d xs sh known = (0, 0, 1)) := Lib.hid (by
      have h1 : chkI m d xs = 1 := by unfold chkI; rw [← HRB.out]; rfl
      unfold rateI; rw [if_neg (by rw [h1]; decide), h1])
    rw [errI_false] at H21
    go_enter Try.func50, Try.ntmps50
    go_upto_region 1 with (fail)
    rw [← HW.out]
    go_wp2_with fail
    refine (H21.out _).mono ?_
    rintro e w1 ⟨rfl, hk1⟩
    have x0 := (R1.out.kept hk1 0 _ rfl).1
    have x1 := (R1.out.kept hk1 1 _ rfl).1
    have y0 := (R1.out.kept hk1 0 _ rfl).2
    have y1 := (R1.out.kept hk1 1 _ rfl).2
    go_wp2
    refine bodyPost_ret (v := .tuple #[.agg #[.int .i64 0, .int .i64 0], .int .i64 1]) (by simp [results, Try.results50, go_sem, x0, x1]) rfl ⟨by rw [HS.out], ?_⟩
    exact ((K0.out.trans hk1).setCell (by simp; try omega) _).setCell (by simp; try omega) _
  rw [errI_true] at H21
  by_cases hq : q = 0
  · subst hq
    have hchk : chkI m d xs = 0 := by unfold chkI; rw [← HRB.out, HPQ.out]; rfl
    have HR : RowKit.Hid (rateI m d xs sh known = if allB (ofS xs known sh) = true then (mxM m (ofS xs known sh), mxD d (ofS xs known sh), 0) else (0, 0, 40)) := Lib.hid (by unfold rateI; rw [if_pos hchk])
    clear hchk
    go_enter Try.func50, Try.ntmps50
    go_upto_region 1 with (fail)
    rw [← HW.out]
    go_wp2_with fail
    refine (H21.out _).mono ?_
    rintro e w1 ⟨rfl, hk1⟩
    go_wp2_with fail
    refine (H45.out _ (K0.out.trans hk1)).mono ?_
    rintro e w2 ⟨rfl, hk2⟩
    have k2 := hk1.trans hk2
    obtain ⟨B, hB⟩ : ∃ B, B = w2.heap.size := ⟨_, rfl⟩
    have hBh : w.heap.size + 1 < B := by have := k2.size; have := ZZ.out; omega
    have HBS := Lib.hid hB
    obtain ⟨W3, hW3⟩ : ∃ W3, W3 = w2.alloc (.cells #[.int .i64 m, .int .i64 d] 23) := ⟨_, rfl⟩
    have k23 : Kept w2 W3 := by rw [hW3]; exact (Kept.refl _).alloc _
    have HW3 := Lib.hid hW3
    have R2 : RowKit.Hid (RowC W3 B [.int .i64 m, .int .i64 d]) := Lib.hid (by rw [hW3, hB]; exact RowC.new w2 [.int .i64 m, .int .i64 d] 23)
    have Z3 : RowKit.Hid (W3.heap.size = B + 1) := Lib.hid (by rw [hW3, hB]; simp)
    replace R1 := Lib.hid (R1.out.kept (k2.trans k23))
    have K3 := Lib.hid ((K0.out.trans k2).trans k23)
    replace c0 := (R0.out.kept k2 0 _ rfl).1
    replace c1 := (R0.out.kept k2 1 _ rfl).1
    replace b0 := cell_lt c0
    clear e0 e1 g0 g1 b1 hk1 hk2 k2 k23 hB hW3
    go_upto_region 7 with (fail)
    rw [← HW3.out, ← HBS.out]
    clear c0 c1 b0
    go_wp2_with fail
    refine (rcounting_any A n c xs known W3 (HT.out.kept K3.out) hlt).mono ?_
    rintro e w4 ⟨A', n', c', rfl, hrec, hfar, hk4⟩
    have hn' : n' ≤ 1000000 := by
      have h1 := cntS_len xs known
      have h2 := hrec.1
      have h3 := HT.out.1
      omega
    obtain ⟨cs, hcs⟩ : ∃ cs, cs = cntS xs known := ⟨_, rfl⟩
    rw [← hcs] at hrec
    have hnc' := hrec.2.1
    have hcm' := hrec.2.2.1
    have HLEN := Lib.hid hrec.1
    have HREC := Lib.hid hrec
    have HFAR : RowKit.Hid (∀ a, A' = some a → B < a.block) := Lib.hid (fun a ha => by have := hfar a ha; have := Z3.out; omega)
    replace R2 := Lib.hid (R2.out.kept hk4)
    replace R1 := Lib.hid (R1.out.kept hk4)
    replace K3 := Lib.hid (K3.out.trans hk4)
    have HSZ : RowKit.Hid (B < w4.heap.size) := Lib.hid (by have := hk4.size; have := Z3.out; omega)
    replace HR : RowKit.Hid (rateI m d xs sh known = if allB (shF sh cs) = true then (mxM m (shF sh cs), mxD d (shF sh cs), 0) else (0, 0, 40)) := Lib.hid (by rw [HR.out, hcs]; rfl)
    clear hrec hfar hk4 hcs
    go_wp2_with fail
    go_loopw [14] (fun i wr => ∃ k : Nat, k ≤ n' ∧ i = .int .i64 k ∧ RowC wr B [.int .i64 (mxM m (shF sh (cs.take k))), .int .i64 (mxD d (shF sh (cs.take k)))] ∧ RowC wr (w.heap.size + 1) [.int .i64 0, .int .i64 0] ∧ allB (shF sh (cs.take k)) = true ∧ RcA wr A' n' c' cs ∧ Kept w wr) (fun i _ => n' - (intOf i).toNat)
    case atStart => exact ⟨0, by omega, by first | rfl | go_num, R2.out, R1.out, rfl, HREC.out, K3.out⟩
    case round =>
      obtain ⟨k, hk, rfl, hrB, hrR, hall, hrec, hkw⟩ := hrel
      clear R1 R2 K3 HREC
      have RB := Lib.hid hrB
      have RR := Lib.hid hrR
      have HALL := Lib.hid hall
      have HREC := Lib.hid hrec
      have KW := Lib.hid hkw
      have HBL : RowKit.Hid (B < wr.heap.size) := Lib.hid (cell_lt (hrB 0 _ rfl).1)
      have hl1 : w.heap.size + 1 < wr.heap.size := cell_lt (hrR 0 _ rfl).1
      obtain ⟨M, hM⟩ : ∃ M, M = mxM m (shF sh (cs.take k)) := ⟨_, rfl⟩
      obtain ⟨D, hD⟩ : ∃ D, D = mxD d (shF sh (cs.take k)) := ⟨_, rfl⟩
      rw [← hM, ← hD] at RB
      have HM := Lib.hid hM
      have HD := Lib.hid hD
      clear hrB hrR hall hrec hkw hM hD
      by_cases hlt2 : k < n'
      · obtain ⟨b, off, hA, htab⟩ := HREC.out.2.2.2 (by omega)
        subst hA
        have hxl : k < cs.length := by rw [HLEN.out]; exact hlt2
        obtain ⟨x, hx⟩ : ∃ x, cs[k]? = some x := ⟨cs[k]'hxl, List.getElem?_eq_getElem hxl⟩
        have HX := Lib.hid hx
        obtain ⟨q0, q1, q2, q3, q4, q5⟩ := htab k x hx
        have qb := cell_lt q0
        clear htab hx
        have hi0 : (0 : Int) ≤ (k : Int) := by omega
        have hi1 : (k : Int) < (n' : Int) := by omega
        by_cases hsh : x.sh = sh
        · have hsn : shF sh (cs.take (k + 1)) = shF sh (cs.take k) ++ [x] := filt_yes HX.out (by simpa using hsh)
          have HSN := Lib.hid hsn
          have hne : (x.sh == sh) = true := by simpa using hsh
          have HSH := Lib.hid hsh
          clear hsn hsh
          obtain ⟨am, ham⟩ : ∃ am, am = misI x.tr x.nu := ⟨_, rfl⟩
          obtain ⟨ad, had⟩ : ∃ ad, ad = douI x.tr x.nu := ⟨_, rfl⟩
          obtain ⟨bm, hbm⟩ : ∃ bm, bm = misB x.tr x.nu := ⟨_, rfl⟩
          obtain ⟨bd, hbd⟩ : ∃ bd, bd = douB x.tr x.nu := ⟨_, rfl⟩
          have H41 : RowKit.Hid (∀ W, Calls Try.prog 41 #[.int .i64 x.tr, .int .i64 x.nu] W fun e w' => e = .returned (.tuple #[.int .i64 am, .bool bm]) ∧ Kept W w') := Lib.hid (fun W => by rw [ham, hbm]; exact rmisses_any _ _ W)
          have H43 : RowKit.Hid (∀ W, Calls Try.prog 43 #[.int .i64 x.tr, .int .i64 x.nu] W fun e w' => e = .returned (.tuple #[.int .i64 ad, .bool bd]) ∧ Kept W w') := Lib.hid (fun W => by rw [had, hbd]; exact rdoubles_any _ _ W)
          have HAM : RowKit.Hid (askM x = am ∧ askD x = ad ∧ askB x = (bm && bd)) := Lib.hid ⟨ham.symm, had.symm, by rw [hbm, hbd]; rfl⟩
          clear ham had hbm hbd
          have SB : RowKit.Hid (∀ W, Kept wr W → W.cell? ⟨b, off + k * 6 + 4, none⟩ = some (.int .i64 x.tr) ∧ W.cell? ⟨b, off + k * 6 + 5, none⟩ = some (.int .i64 x.nu) ∧ Kept wr W) := Lib.hid (fun W hW => ⟨(hW.cells _ _ (cell_lt q4)).trans q4, (hW.cells _ _ (cell_lt q5)).trans q5, hW⟩)
          have SST : RowKit.Hid (∀ W W', (W.cell? ⟨b, off + k * 6 + 4, none⟩ = some (.int .i64 x.tr) ∧ W.cell? ⟨b, off + k * 6 + 5, none⟩ = some (.int .i64 x.nu) ∧ Kept wr W) → Kept W W' → W'.cell? ⟨b, off + k * 6 + 4, none⟩ = some (.int .i64 x.tr) ∧ W'.cell? ⟨b, off + k * 6 + 5, none⟩ = some (.int .i64 x.nu) ∧ Kept wr W') := Lib.hid (fun W W' h hk => SB.out W' (h.2.2.trans hk))
          go_upto_region 12 with (fail)
          have SB1 := Lib.hid (SB.out _ (Kept.refl wr).drew)
          go_region_held3 (fun W => W.cell? ⟨b, off + k * 6 + 4, none⟩ = some (.int .i64 x.tr) ∧ W.cell? ⟨b, off + k * 6 + 5, none⟩ = some (.int .i64 x.nu) ∧ Kept wr W) (first | (with_reducible exact SB1.out) | (with_reducible assumption) | (with_reducible refine SST.out _ _ ?_ hkk; assumption) | fail) (first | fail | (go_at_call 41; refine (H41.out _).mono ?_; rintro e w5 ⟨rfl, hkk⟩))
          obtain ⟨q4, q5, hkz⟩ := ‹_ ∧ _›
          clear SB1
          go_upto_region 13 with (fail)
          have SB1 := Lib.hid (SB.out _ hkz.drew)
          go_region_held3 (fun W => W.cell? ⟨b, off + k * 6 + 4, none⟩ = some (.int .i64 x.tr) ∧ W.cell? ⟨b, off + k * 6 + 5, none⟩ = some (.int .i64 x.nu) ∧ Kept wr W) (first | (with_reducible exact SB1.out) | (with_reducible assumption) | (with_reducible refine SST.out _ _ ?_ hkk; assumption) | fail) (first | fail | (go_at_call 43; refine (H43.out _).mono ?_; rintro e w5 ⟨rfl, hkk⟩))
          rename World => z
          obtain ⟨-, -, hkz⟩ := ‹_ ∧ _›
          clear SB1 SB SST q0 q1 q2 q3 q4 q5 H41 H43
          have RBz := RB.out.kept hkz
          have RRz := RR.out.kept hkz
          have x0 := (RRz 0 _ rfl).1
          have x1 := (RRz 1 _ rfl).1
          have y0 := (RRz 0 _ rfl).2
          have y1 := (RRz 1 _ rfl).2
          have u0 := (RBz 0 _ rfl).1
          have u1 := (RBz 1 _ rfl).1
          have f0 := (RBz 0 _ rfl).2
          have f1 := (RBz 1 _ rfl).2
          have lx := cell_lt x0
          have lu := cell_lt u0
          have KZ := Lib.hid (KW.out.trans hkz)
          have RBZ := Lib.hid RBz
          have RRZ := Lib.hid RRz
          have HRZ := Lib.hid (HREC.out.kept hkz)
          clear RBz RRz hkz
          cases bm
          · have HS : RowKit.Hid (rateI m d xs sh known = (0, 0, 40)) := Lib.hid (by
              rw [HR.out, if_neg]
              intro h
              have h2 := allB_at h HX.out HSH.out
              rw [HAM.out.2.2] at h2
              simp at h2)
            go_wp2
            refine bodyPost_ret (v := .tuple #[.agg #[.int .i64 0, .int .i64 0], .int .i64 40]) (by simp [results, Try.results50, go_sem, x0, x1]) rfl ⟨by rw [HS.out], ?_⟩
            exact (KZ.out.setCell (by simp; try omega) _).setCell (by simp; try omega) _
          cases bd
          · have HS : RowKit.Hid (rateI m d xs sh known = (0, 0, 40)) := Lib.hid (by
              rw [HR.out, if_neg]
              intro h
              have h2 := allB_at h HX.out HSH.out
              rw [HAM.out.2.2] at h2
              simp at h2)
            go_wp2
            refine bodyPost_ret (v := .tuple #[.agg #[.int .i64 0, .int .i64 0], .int .i64 40]) (by simp [results, Try.results50, go_sem, x0, x1]) rfl ⟨by rw [HS.out], ?_⟩
            exact (KZ.out.setCell (by simp; try omega) _).setCell (by simp; try omega) _
          have hwb : w.heap.size ≤ B := by omega
          have HNX : RowKit.Hid (allB (shF sh (cs.take (k + 1))) = true ∧ mxM m (shF sh (cs.take (k + 1))) = max M am ∧ mxD d (shF sh (cs.take (k + 1))) = max D ad) := Lib.hid (by
            rw [HSN.out, allB_snoc, mxM_snoc, mxD_snoc, HALL.out, HAM.out.1, HAM.out.2.1, HAM.out.2.2, HM.out, HD.out]
            exact ⟨rfl, rfl, rfl⟩)
          have HP : RowKit.Hid (∀ M' D', M' = max M am → D' = max D ad → ∀ W, W = (z.setCell ⟨B, 0, none⟩ (.int .i64 M')).setCell ⟨B, 1, none⟩ (.int .i64 D') → RowC W B [.int .i64 (mxM m (shF sh (cs.take (k + 1)))), .int .i64 (mxD d (shF sh (cs.take (k + 1))))] ∧ RowC W (w.heap.size + 1) [.int .i64 0, .int .i64 0] ∧ allB (shF sh (cs.take (k + 1))) = true ∧ RcA W (some ⟨b, off, none⟩) n' c' cs ∧ Kept w W) := Lib.hid (fun M' D' hM' hD' W hW => by
            subst hW
            rw [HNX.out.2.1, HNX.out.2.2, ← hM', ← hD']
            refine ⟨?_, (RRZ.out.far (by omega) _).far (by omega) _, HNX.out.1, (HRZ.out.far HFAR.out).far HFAR.out, (KZ.out.setCell hwb _).setCell hwb _⟩
            have := (RBZ.out.put (j := 0) (by simp) (.int .i64 M')).put (j := 1) (by simp) (.int .i64 D')
            simpa using this)
          rcases Int.lt_or_le M am with hm1 | hm1 <;> rcases Int.lt_or_le D ad with hd1 | hd1
          all_goals
            go_wp2
            go_roundw
            case rel => exact ⟨k + 1, by omega, by go_num, HP.out _ _ (by omega) (by omega) _ rfl⟩
            case measure => simp [intOf]; omega
        · have hsn : shF sh (cs.take (k + 1)) = shF sh (cs.take k) := filt_no HX.out (by simpa using hsh)
          have HSN := Lib.hid hsn
          have hne : (x.sh == sh) = false := by simpa using hsh
          clear hsn
          go_wp2
          go_roundw
          case rel => exact ⟨k + 1, by omega, by go_num, by rw [HSN.out, ← HM.out, ← HD.out]; exact RB.out, RR.out, by rw [HSN.out]; exact HALL.out, HREC.out, KW.out⟩
          case measure => simp [intOf]; omega
      · obtain rfl : k = n' := by omega
        have htk : cs.take k = cs := List.take_of_length_le (by rw [HLEN.out]; exact Nat.le_refl _)
        rw [htk] at HM HD HALL
        have HS : RowKit.Hid (rateI m d xs sh known = (M, D, 0)) := Lib.hid (by rw [HR.out, if_pos HALL.out, ← HM.out, ← HD.out])
        have x0 := (RR.out 0 _ rfl).1
        have x1 := (RR.out 1 _ rfl).1
        have y0 := (RR.out 0 _ rfl).2
        have y1 := (RR.out 1 _ rfl).2
        have u0 := (RB.out 0 _ rfl).1
        have u1 := (RB.out 1 _ rfl).1
        clear htk
        go_wp2
        refine bodyPost_ret (v := .tuple #[.agg #[.int .i64 M, .int .i64 D], .int .i64 0]) (by simp [results, Try.results50, go_sem, x0, x1]) rfl ⟨by rw [HS.out], ?_⟩
        exact (KW.out.setCell (by simp; try omega) _).setCell (by simp; try omega) _
  · have HS : RowKit.Hid (rateI m d xs sh known = (0, 0, q)) := Lib.hid (by
      have h1 : chkI m d xs = q := by unfold chkI; rw [← HRB.out, HPQ.out]; rfl
      unfold rateI; rw [if_neg (by rw [h1]; exact hq), h1])
    have hqb : (q == 0) = false := by simpa using hq
    go_enter Try.func50, Try.ntmps50
    go_upto_region 1 with (fail)
    rw [← HW.out]
    go_wp2_with fail
    refine (H21.out _).mono ?_
    rintro e w1 ⟨rfl, hk1⟩
    go_wp2_with fail
    refine (H45.out _ (K0.out.trans hk1)).mono ?_
    rintro e w2 ⟨rfl, hk2⟩
    have k2 := hk1.trans hk2
    have x0 := (R1.out.kept k2 0 _ rfl).1
    have x1 := (R1.out.kept k2 1 _ rfl).1
    have y0 := (R1.out.kept k2 0 _ rfl).2
    have y1 := (R1.out.kept k2 1 _ rfl).2
    go_wp2
    refine bodyPost_ret (v := .tuple #[.agg #[.int .i64 0, .int .i64 0], .int .i64 q]) (by simp [results, Try.results50, go_sem, x0, x1]) rfl ⟨by rw [HS.out], ?_⟩
    exact ((K0.out.trans k2).setCell (by simp; try omega) _).setCell (by simp; try omega) _
end Go.Proofs.Ytjaicilnlgjdcaa
