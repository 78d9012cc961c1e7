/- the reference's Passage -/
import Derived.Test.YtjaicilnlgjdcaaWl
import Derived.Test.YtjaicilnlgjdcaaVg
import Derived.Deep.DeepCutAuto
namespace Go.Proofs.Ytjaicilnlgjdcaa
set_option linter.all false
open Go.RowKit Go.Shelf

set_option maxRecDepth 1000000 in
theorem field34 (a b c : Value) (w : World) : (Instr.field 34 (.agg #[a, b, c]) 2).run Try.prog w = .ok c w := by
  simp [go_sem, Instr.field, Try.underlying34]
  rfl
theorem good_valid {x : Iv} (h : goodV x) : validB x.lo x.hi x.so = true := by
  rcases h with h | h
  · unfold validB
    rw [h.1, inB_iff.2 (by omega), inB_iff.2 (by omega), decide_eq_true h.2.2.2]; simp
  · subst h; decide
theorem rbothV (a b c d : Int) (s t : Bool) (hx : goodV ⟨a, b, s⟩) (hy : goodV ⟨c, d, t⟩) (w : World) :
    Calls Try.prog 34 #[.agg #[.int .i64 a, .int .i64 b, .bool s], .agg #[.int .i64 c, .int .i64 d, .bool t]] w fun e w' => e = .returned (.agg #[.int .i64 (bV ⟨a, b, s⟩ ⟨c, d, t⟩).lo, .int .i64 (bV ⟨a, b, s⟩ ⟨c, d, t⟩).hi, .bool (bV ⟨a, b, s⟩ ⟨c, d, t⟩).so]) ∧ Kept w w' := by
  have := rboth_any a b s c d t w
  rwa [show bothX a b s c d t = bothI a b s c d t by unfold bothX; rw [if_pos ⟨good_valid hx, good_valid hy⟩]] at this

set_option maxRecDepth 100000 in
set_option maxHeartbeats 4000000 in
theorem rpassage_any (A : Option Addr) (n1 c1 : Nat) (rs : List Rt) (B : Option Addr) (n c : Nat) (cs : List Ct) (w : World) (hR : SliK 2 rtCells w A n1 c1 rs) (hC : SliK 5 ctCells w B n c cs) (hlt : n ≤ 1000000) :
    Calls Try.prog 38 #[.slice A n1 c1, .slice B n c] w (PassOut w rs cs) := by
  have HR := Lib.hid hR
  have HC := Lib.hid hC
  have hfl := field34
  have hnc := hC.2.1
  have hcm := hC.2.2.1
  have hnc1 := hR.2.1
  have hcm1 := hR.2.2.1
  clear hR hC
  obtain ⟨W0, hW0⟩ : ∃ W0, W0 = w.alloc (.cells #[.int .i64 0, .int .i64 0, .bool false] 34) := ⟨_, rfl⟩
  have K0 : RowKit.Hid (Kept w W0) := Lib.hid (by rw [hW0]; exact (Kept.refl _).alloc _)
  have R0 : RowKit.Hid (RowC W0 w.heap.size [.int .i64 0, .int .i64 0, .bool false]) := Lib.hid (by rw [hW0]; exact RowC.new w [.int .i64 0, .int .i64 0, .bool false] 34)
  have Z0 : RowKit.Hid (W0.heap.size = w.heap.size + 1) := Lib.hid (by rw [hW0]; simp)
  have HW := Lib.hid hW0
  clear hW0
  have a0 := (R0.out 0 _ rfl).1
  have a1 := (R0.out 1 _ rfl).1
  have a2 := (R0.out 2 _ rfl).1
  have f0 := (R0.out 0 _ rfl).2
  have f1 := (R0.out 1 _ rfl).2
  have f2 := (R0.out 2 _ rfl).2
  have la := cell_lt a0
  by_cases h200 : 200 < n
  · go_enter Try.func38, Try.ntmps38
    go_upto_region 1 with (fail)
    rw [← HW.out]
    go_wp2
    refine bodyPost_ret (v := .tuple #[.agg #[.int .i64 0, .int .i64 0, .bool false], .slice none 0 0, .int .i64 2]) (by simp [results, Try.results38, go_sem, a0, a1, a2]) rfl ⟨iv0, [], 2, none, 0, 0, rfl, IntA.nil _, .inl ⟨rfl, by rw [HC.out.1]; exact h200, rfl, rfl⟩, ?_⟩
    exact ((K0.out.setCell (by simp; try omega) _).setCell (by simp; try omega) _).setCell (by simp; try omega) _
  by_cases h00 : n = 0
  · subst h00
    go_enter Try.func38, Try.ntmps38
    go_upto_region 1 with (fail)
    rw [← HW.out]
    go_wp2
    refine bodyPost_ret (v := .tuple #[.agg #[.int .i64 0, .int .i64 0, .bool false], .slice none 0 0, .int .i64 1]) (by simp [results, Try.results38, go_sem, a0, a1, a2]) rfl ⟨iv0, [], 1, none, 0, 0, rfl, IntA.nil _, .inr (.inl ⟨rfl, by rw [HC.out.1]; omega, .inl HC.out.1, rfl, rfl⟩), ?_⟩
    exact ((K0.out.setCell (by simp; try omega) _).setCell (by simp; try omega) _).setCell (by simp; try omega) _
  by_cases h11 : n1 = n
  · subst h11
    obtain ⟨b, off, hA, htab⟩ := HR.out.2.2.2 (by omega)
    obtain ⟨b2, off2, hB, htab2⟩ := HC.out.2.2.2 (by omega)
    subst hA hB
    have HTR := Lib.hid htab
    have HTC := Lib.hid htab2
    clear htab htab2
    go_enter Try.func38, Try.ntmps38
    go_upto_region 1 with (fail)
    rw [← HW.out]
    have hzb : ((n1 : Int) == 0) = false := by simp; omega
    go_wp2_with fail
    go_loopw [7] (fun i wr => ∃ k : Nat, k ≤ n1 ∧ i = .int .i64 k ∧ Kept W0 wr ∧ (∀ (j : Nat) (r : Rt) (c : Ct), j < k → rs[j]? = some r → cs[j]? = some c → okV r c = true)) (fun i _ => n1 - (intOf i).toNat)
    case atStart => exact ⟨0, by omega, by first | rfl | go_num, Kept.refl _, fun _ _ _ h => absurd h (Nat.not_lt_zero _)⟩
    case round =>
      obtain ⟨wa, rfl⟩ : ∃ wa, wa = wr := ⟨_, rfl⟩
      obtain ⟨k, hk, rfl, hkr, hok⟩ := hrel
      have HOK := Lib.hid hok
      have HKR := Lib.hid hkr
      clear hok a0 a1 a2 f0 f1 f2 la
      by_cases hlt2 : k < n1
      · have kw := K0.out.trans hkr
        obtain ⟨r, hr⟩ : ∃ r, rs[k]? = some r := ⟨rs[k]'(by rw [HR.out.1]; omega), List.getElem?_eq_getElem (by rw [HR.out.1]; omega)⟩
        obtain ⟨x, hx⟩ : ∃ x, cs[k]? = some x := ⟨cs[k]'(by rw [HC.out.1]; omega), List.getElem?_eq_getElem (by rw [HC.out.1]; omega)⟩
        have HRK := Lib.hid hr
        have HXK := Lib.hid hx
        have p0 := (kw.cells _ _ (cell_lt (HTR.out k r hr 0 _ rfl))).trans (HTR.out k r hr 0 _ rfl)
        have p1 := (kw.cells _ _ (cell_lt (HTR.out k r hr 1 _ rfl))).trans (HTR.out k r hr 1 _ rfl)
        have q0 := (kw.cells _ _ (cell_lt (HTC.out k x hx 0 _ rfl))).trans (HTC.out k x hx 0 _ rfl)
        have q1 := (kw.cells _ _ (cell_lt (HTC.out k x hx 1 _ rfl))).trans (HTC.out k x hx 1 _ rfl)
        have q2 := (kw.cells _ _ (cell_lt (HTC.out k x hx 2 _ rfl))).trans (HTC.out k x hx 2 _ rfl)
        have q3 := (kw.cells _ _ (cell_lt (HTC.out k x hx 3 _ rfl))).trans (HTC.out k x hx 3 _ rfl)
        have q4 := (kw.cells _ _ (cell_lt (HTC.out k x hx 4 _ rfl))).trans (HTC.out k x hx 4 _ rfl)
        simp only [Nat.add_zero] at p0 q0
        have lp := cell_lt p0
        have lq := cell_lt q0
        clear hr hx
        clear kw
        have hi0 : (0 : Int) ≤ (k : Int) := by omega
        have hi1 : (k : Int) < (n1 : Int) := by omega
        obtain ⟨rb, hrb⟩ : ∃ rb, rb = rateB r.m r.d := ⟨_, rfl⟩
        obtain ⟨cb, hcb⟩ : ∃ cb, cb = countB x.id x.dy x.sh x.nu x.wo := ⟨_, rfl⟩
        have H21 : RowKit.Hid (∀ W, Calls Try.prog 21 #[.agg #[.int .i64 r.m, .int .i64 r.d]] W fun e w' => e = .returned (.int .i64 (errI rb)) ∧ Kept W w') := Lib.hid (fun W => by rw [hrb]; exact rrate_any _ _ W)
        have H23 : RowKit.Hid (∀ W, Calls Try.prog 23 #[.agg #[.int .i64 x.id, .int .i64 x.dy, .int .i64 x.sh, .int .i64 x.nu, .int .i64 x.wo]] W fun e w' => e = .returned (.int .i64 (errI cb)) ∧ Kept W w') := Lib.hid (fun W => by rw [hcb]; exact rcount_any _ _ _ _ _ W)
        have HRB := Lib.hid hrb
        have HCB := Lib.hid hcb
        clear hrb hcb
        cases rb
        · rw [errI_false] at H21
          have HBAD : RowKit.Hid (okV r x = false) := Lib.hid (by unfold okV ocOk; rw [← HRB.out]; rfl)
          go_wp2_with fail
          refine (H21.out _).mono ?_
          rintro e w5 ⟨rfl, hk5⟩
          have R5 := R0.out.kept (HKR.out.trans hk5)
          have a0 := (R5 0 _ rfl).1
          have a1 := (R5 1 _ rfl).1
          have a2 := (R5 2 _ rfl).1
          have f0 := (R5 0 _ rfl).2
          have f1 := (R5 1 _ rfl).2
          have f2 := (R5 2 _ rfl).2
          have KX := Lib.hid (K0.out.trans (HKR.out.trans hk5))
          clear R5
          go_wp2
          refine bodyPost_ret (v := .tuple #[.agg #[.int .i64 0, .int .i64 0, .bool false], .slice none 0 0, .int .i64 1]) (by simp [results, Try.results38, go_sem, a0, a1, a2]) rfl ⟨iv0, [], 1, none, 0, 0, rfl, IntA.nil _, .inr (.inl ⟨rfl, by rw [HC.out.1]; omega, .inr (.inr ⟨k, r, x, HRK.out, HXK.out, HBAD.out⟩), rfl, rfl⟩), ?_⟩
          exact ((KX.out.setCell (by simp; try omega) _).setCell (by simp; try omega) _).setCell (by simp; try omega) _
        rw [errI_true] at H21
        go_wp2_with fail
        refine (H21.out _).mono ?_
        rintro e w5 ⟨rfl, hk5⟩
        replace q0 := (hk5.cells _ _ lq).trans q0
        replace q1 := (hk5.cells _ _ lq).trans q1
        replace q2 := (hk5.cells _ _ lq).trans q2
        replace q3 := (hk5.cells _ _ lq).trans q3
        replace q4 := (hk5.cells _ _ lq).trans q4
        replace lq := cell_lt q0
        have K5 := Lib.hid (HKR.out.trans hk5)
        clear hk5 p0 p1 lp hkr
        cases cb
        · rw [errI_false] at H23
          have HBAD : RowKit.Hid (okV r x = false) := Lib.hid (by unfold okV ocOk; rw [← HRB.out, ← HCB.out]; rfl)
          go_wp2_with fail
          refine (H23.out _).mono ?_
          rintro e w6 ⟨rfl, hk6⟩
          have R5 := R0.out.kept (K5.out.trans hk6)
          have a0 := (R5 0 _ rfl).1
          have a1 := (R5 1 _ rfl).1
          have a2 := (R5 2 _ rfl).1
          have f0 := (R5 0 _ rfl).2
          have f1 := (R5 1 _ rfl).2
          have f2 := (R5 2 _ rfl).2
          have KX := Lib.hid (K0.out.trans (K5.out.trans hk6))
          clear R5
          go_wp2
          refine bodyPost_ret (v := .tuple #[.agg #[.int .i64 0, .int .i64 0, .bool false], .slice none 0 0, .int .i64 1]) (by simp [results, Try.results38, go_sem, a0, a1, a2]) rfl ⟨iv0, [], 1, none, 0, 0, rfl, IntA.nil _, .inr (.inl ⟨rfl, by rw [HC.out.1]; omega, .inr (.inr ⟨k, r, x, HRK.out, HXK.out, HBAD.out⟩), rfl, rfl⟩), ?_⟩
          exact ((KX.out.setCell (by simp; try omega) _).setCell (by simp; try omega) _).setCell (by simp; try omega) _
        rw [errI_true] at H23
        have HGOOD : RowKit.Hid (okV r x = true) := Lib.hid (by unfold okV ocOk; rw [← HRB.out, ← HCB.out]; rfl)
        go_wp2_with fail
        refine (H23.out _).mono ?_
        rintro e w6 ⟨rfl, hk6⟩
        have K6 := Lib.hid (K5.out.trans hk6)
        go_wp2
        go_roundw
        case rel =>
          refine ⟨k + 1, by omega, by go_num, K6.out, fun j r' c' hj hr' hc' => ?_⟩
          rcases Nat.lt_or_eq_of_le (Nat.le_of_lt_succ hj) with h | h
          · exact HOK.out j r' c' h hr' hc'
          · subst h
            have h1 := HRK.out
            have h2 := HXK.out
            rw [hr'] at h1
            rw [hc'] at h2
            cases h1
            cases h2
            exact HGOOD.out
        case measure => simp [intOf] <;> omega
      · obtain rfl : k = n1 := by omega
        have HALLOK : RowKit.Hid (∀ (j : Nat) (r : Rt) (c : Ct), rs[j]? = some r → cs[j]? = some c → okV r c = true) := Lib.hid (fun j r' c' hr' hc' => HOK.out j r' c' (by have := (List.getElem?_eq_some_iff.1 hc').1; rw [HC.out.1] at this; exact this) hr' hc')
        obtain ⟨B8, hB8⟩ : ∃ B8, B8 = wa.heap.size := ⟨_, rfl⟩
        have HB8W : RowKit.Hid (W0.heap.size ≤ B8) := Lib.hid (by rw [hB8]; exact hkr.size)
        have hb8 : w.heap.size < B8 := by have := hkr.size; have := Z0.out; omega
        have HB8 := Lib.hid hB8
        obtain ⟨W1, hW1⟩ : ∃ W1, W1 = wa.alloc (.cells #[.int .i64 0, .int .i64 100000, .bool true] 34) := ⟨_, rfl⟩
        have R8 : RowKit.Hid (RowC W1 B8 (ivCells (foldB a100 ((spn rs cs).take 0)))) := Lib.hid (by rw [hW1, hB8]; exact RowC.new wa [.int .i64 0, .int .i64 100000, .bool true] 34)
        have K1 : RowKit.Hid (Kept W0 W1) := Lib.hid (hkr.trans (by rw [hW1]; exact (Kept.refl _).alloc _))
        have HW1 := Lib.hid hW1
        clear hB8 hW1 hkr
        go_upto_region 11 with (fail)
        rw [← HW1.out, ← HB8.out]
        go_wp2_with fail
        go_loopw [9] (fun i wr => ∃ k' : Nat, k' ≤ k ∧ i = .int .i64 k' ∧ Kept W0 wr ∧ RowC wr B8 (ivCells (foldB a100 ((spn rs cs).take k')))) (fun i _ => k - (intOf i).toNat)
        case atStart => exact ⟨0, by omega, by first | rfl | go_num, K1.out, R8.out⟩
        case round =>
          obtain ⟨k', hk', rfl, hkr, hr8⟩ := hrel
          have HKR2 := Lib.hid hkr
          obtain ⟨⟨fa, fb, fs⟩, hF⟩ : ∃ F : Iv, F = foldB a100 ((spn rs cs).take k') := ⟨_, rfl⟩
          rw [← hF] at hr8
          have HF := Lib.hid hF
          have HR8 := Lib.hid hr8
          clear hr8 hF
          by_cases hlt3 : k' < k
          · have kw := K0.out.trans hkr
            obtain ⟨r, hr⟩ : ∃ r, rs[k']? = some r := ⟨rs[k']'(by rw [HR.out.1]; omega), List.getElem?_eq_getElem (by rw [HR.out.1]; omega)⟩
            obtain ⟨x, hx⟩ : ∃ x, cs[k']? = some x := ⟨cs[k']'(by rw [HC.out.1]; omega), List.getElem?_eq_getElem (by rw [HC.out.1]; omega)⟩
            have HRK := Lib.hid hr
            have HXK := Lib.hid hx
            have p0 := (kw.cells _ _ (cell_lt (HTR.out k' r hr 0 _ rfl))).trans (HTR.out k' r hr 0 _ rfl)
            have p1 := (kw.cells _ _ (cell_lt (HTR.out k' r hr 1 _ rfl))).trans (HTR.out k' r hr 1 _ rfl)
            have q0 := (kw.cells _ _ (cell_lt (HTC.out k' x hx 0 _ rfl))).trans (HTC.out k' x hx 0 _ rfl)
            have q1 := (kw.cells _ _ (cell_lt (HTC.out k' x hx 1 _ rfl))).trans (HTC.out k' x hx 1 _ rfl)
            have q2 := (kw.cells _ _ (cell_lt (HTC.out k' x hx 2 _ rfl))).trans (HTC.out k' x hx 2 _ rfl)
            have q3 := (kw.cells _ _ (cell_lt (HTC.out k' x hx 3 _ rfl))).trans (HTC.out k' x hx 3 _ rfl)
            have q4 := (kw.cells _ _ (cell_lt (HTC.out k' x hx 4 _ rfl))).trans (HTC.out k' x hx 4 _ rfl)
            simp only [Nat.add_zero] at p0 q0
            have lp := cell_lt p0
            have lq := cell_lt q0
            clear hr hx
            clear kw
            have hi0 : (0 : Int) ≤ (k' : Int) := by omega
            have hi1 : (k' : Int) < (k : Int) := by omega
            obtain ⟨⟨sl, sh, so⟩, hS⟩ : ∃ S : Iv, S = ocV r x := ⟨_, rfl⟩
            have H27 : RowKit.Hid (∀ W, Calls Try.prog 27 #[.agg #[.int .i64 r.m, .int .i64 r.d], .agg #[.int .i64 x.id, .int .i64 x.dy, .int .i64 x.sh, .int .i64 x.nu, .int .i64 x.wo]] W fun e w' => e = .returned (.tuple #[.agg #[.int .i64 sl, .int .i64 sh, .bool so], .int .i64 0]) ∧ Kept W w') := Lib.hid (fun W => by
              have := rofCount_any r.m r.d x.id x.dy x.sh x.nu x.wo W
              have hg : ocOk r.m r.d x.id x.dy x.sh x.nu x.wo = true := HALLOK.out k' r x HRK.out HXK.out
              rw [hg, errI_true] at this
              unfold ocV at hS
              injection hS with h1 h2 h3
              rwa [← h1, ← h2, ← h3] at this)
            go_upto_region 14 with (fail)
            go_cut [10, 11] (fun sa sb wx => ∃ bx, sa = .pointer (some ⟨bx, 0, none⟩) ∧ sb = .int .i64 0 ∧ wr.heap.size ≤ bx ∧ RowC wx bx [.int .i64 sl, .int .i64 sh, .bool so] ∧ Kept wr wx)
            case first =>
              go_region_law (first
                | (rw [if_pos (by rfl)]; go_simp; refine (H27.out _).mono ?_; rintro e w9 ⟨rfl, hk9⟩; have kk9 : Kept wr w9 := (by with_reducible exact (Kept.refl wr).drew.trans hk9); go_wp2_with fail)
                | (rw [if_pos (by rfl)]; go_simp; refine (H27.out _).mono ?_; rintro e w9 ⟨rfl, hk9⟩; have kk9 : Kept wr w9 := (by with_reducible exact ((Kept.refl wr).alloc _).drew.trans hk9); have rz := ((RowC.new wr [.int .i64 0, .int .i64 0, .bool false] 34).drew).kept hk9; have z0 := (rz 0 _ rfl).1; have z1 := (rz 1 _ rfl).1; have z2 := (rz 2 _ rfl).1; have y0 := (rz 0 _ rfl).2; have y1 := (rz 1 _ rfl).2; have y2 := (rz 2 _ rfl).2; have lz := cell_lt z0; go_wp2_with fail)
                | fail)
              all_goals go_wp2
              all_goals go_meet
              all_goals first
                | exact ⟨w9.heap.size, rfl, rfl, kk9.size, RowC.new w9 [.int .i64 sl, .int .i64 sh, .bool so] 34, kk9.alloc _⟩
                | exact ⟨wr.heap.size, rfl, rfl, Nat.le_refl _, by simpa using ((rz.put (j := 0) (by simp) (.int .i64 sl)).put (j := 1) (by simp) (.int .i64 sh)).put (j := 2) (by simp) (.bool so), ((kk9.setCell (Nat.le_refl _) _).setCell (Nat.le_refl _) _).setCell (Nat.le_refl _) _⟩
            obtain ⟨bx, rfl, rfl, hbx, rx, kx⟩ := hcut
            have r8 := HR8.out.kept kx
            have e0 := (r8 0 _ rfl).1
            have e1 := (r8 1 _ rfl).1
            have e2 := (r8 2 _ rfl).1
            have x0 := (rx 0 _ rfl).1
            have x1 := (rx 1 _ rfl).1
            have x2 := (rx 2 _ rfl).1
            dsimp only at e0 e1 e2
            have le := cell_lt e0
            have lx := cell_lt x0
            have hgF : goodV ⟨fa, fb, fs⟩ := by rw [HF.out]; exact (fold_good _ a100 a100_good (fun s hs => spn_good s (List.mem_of_mem_take hs))).1
            have hgS : goodV ⟨sl, sh, so⟩ := by rw [hS]; exact ocV_ok r x
            obtain ⟨⟨ga, gb, gs⟩, hG⟩ : ∃ G : Iv, G = bV ⟨fa, fb, fs⟩ ⟨sl, sh, so⟩ := ⟨_, rfl⟩
            have H34 : RowKit.Hid (∀ W, Calls Try.prog 34 #[.agg #[.int .i64 fa, .int .i64 fb, .bool fs], .agg #[.int .i64 sl, .int .i64 sh, .bool so]] W fun e w' => e = .returned (.agg #[.int .i64 ga, .int .i64 gb, .bool gs]) ∧ Kept W w') := Lib.hid (fun W => by have := rbothV fa fb sl sh fs so hgF hgS W; rwa [← hG] at this)
            have HSN : RowKit.Hid (foldB a100 ((spn rs cs).take (k' + 1)) = ⟨ga, gb, gs⟩) := Lib.hid (by rw [foldB_snoc (spn_at HRK.out HXK.out), ← HF.out, ← hS, hG])
            have R8C := Lib.hid r8
            have KX := Lib.hid (HKR2.out.trans kx)
            clear r8 rx kx hgF hgS hS hG p0 p1 q0 q1 q2 q3 q4 lp lq hi0 hi1 hkr
            go_wp2_with fail
            refine (H34.out _).mono ?_
            rintro e w10 ⟨rfl, hk10⟩
            have r8 := R8C.out.kept hk10
            replace e0 := (r8 0 _ rfl).1
            replace e1 := (r8 1 _ rfl).1
            replace e2 := (r8 2 _ rfl).1
            dsimp only at e0 e1 e2
            have y0 := (r8 0 _ rfl).2
            have y1 := (r8 1 _ rfl).2
            have y2 := (r8 2 _ rfl).2
            replace le := cell_lt e0
            have R8D := Lib.hid r8
            have K10 := Lib.hid (KX.out.trans hk10)
            clear r8 hk10 x0 x1 x2 lx
            go_wp2
            go_roundw
            case rel =>
              have g1 : Kept W0 (((w10.setCell ⟨B8, 0, none⟩ (.int .i64 ga)).setCell ⟨B8, 1, none⟩ (.int .i64 gb)).setCell ⟨B8, 2, none⟩ (.bool gs)) := ((K10.out.setCell HB8W.out _).setCell HB8W.out _).setCell HB8W.out _
              have g2 : RowC (((w10.setCell ⟨B8, 0, none⟩ (.int .i64 ga)).setCell ⟨B8, 1, none⟩ (.int .i64 gb)).setCell ⟨B8, 2, none⟩ (.bool gs)) B8 (ivCells (foldB a100 ((spn rs cs).take (k' + 1)))) := by
                rw [HSN.out]
                have := ((R8D.out.put (j := 0) (by simp [ivCells]) (.int .i64 ga)).put (j := 1) (by simp [ivCells]) (.int .i64 gb)).put (j := 2) (by simp [ivCells]) (.bool gs)
                simpa [ivCells] using this
              first
                | exact ⟨k' + 1, by omega, by go_num, g1, g2⟩
                | ((repeat apply Exists.intro); exact ⟨⟨k' + 1, by omega, by go_num, g1, g2⟩, rfl⟩)
            case measure => simp [intOf] <;> omega
          · obtain rfl : k' = k := by omega
            have hlen : (spn rs cs).length = k' := by rw [spn_len rs cs (by rw [HR.out.1, HC.out.1]), HC.out.1]
            have htk : (spn rs cs).take k' = spn rs cs := List.take_of_length_le (by rw [hlen]; exact Nat.le_refl _)
            rw [htk] at HF
            have HLEN := Lib.hid hlen
            have hgF : goodV ⟨fa, fb, fs⟩ := by rw [HF.out]; exact (fold_good _ a100 a100_good spn_good).1
            have HGF := Lib.hid hgF
            have e0 := (HR8.out 0 _ rfl).1
            have e1 := (HR8.out 1 _ rfl).1
            have e2 := (HR8.out 2 _ rfl).1
            dsimp only at e0 e1 e2
            have le := cell_lt e0
            have KX := Lib.hid (K0.out.trans hkr)
            have R4 := Lib.hid (R0.out.kept hkr)
            have PR : RowKit.Hid (∀ ids, ApRes (spn rs cs) ids → PassRes rs cs ⟨fa, fb, fs⟩ ids 0) := Lib.hid (fun ids hp => .inr (.inr ⟨rfl, by rw [HC.out.1]; omega, by rw [HC.out.1]; omega, by rw [HR.out.1, HC.out.1], fun j r' c' hr' hc' => HALLOK.out j r' c' hr' hc', HF.out, hp⟩))
            clear hlen htk hgF hkr
            cases fs
            · obtain ⟨rfl, rfl⟩ : fa = 0 ∧ fb = 0 := by
                rcases HGF.out with h | h
                · cases h.1
                · injection h with h1 h2 _; exact ⟨h1, h2⟩
              obtain ⟨wb, rfl⟩ : ∃ wb, wb = wr := ⟨_, rfl⟩
              clear le
              go_wp2_with fail
              go_loopw [12] (fun v wr => ∃ i : Nat, i ≤ k' ∧ v = .int .i64 i ∧ Kept wb wr ∧ (∀ (i' j' : Nat) (x' y' : Iv), i' ≤ j' → i' < i → (spn rs cs)[i']? = some x' → (spn rs cs)[j']? = some y' → emI (bV x' y') = false)) (fun v _ => k' - (intOf v).toNat)
              case atStart => exact ⟨0, by omega, by first | rfl | go_num, Kept.refl _, fun _ _ _ _ _ h => absurd h (Nat.not_lt_zero _)⟩
              case round =>
                obtain ⟨wd, rfl⟩ : ∃ wd, wd = wr := ⟨_, rfl⟩
                obtain ⟨i, hi, rfl, hkd, hno⟩ := hrel
                have HNO := Lib.hid hno
                have HKD := Lib.hid hkd
                clear hno hkd e0 e1 e2
                by_cases hlt5 : i < k'
                · have hii0 : (0 : Int) ≤ (i : Int) := by omega
                  have hii1 : (i : Int) < (k' : Int) := by omega
                  go_wp2_with fail
                  go_loopw [13] (fun v wr => ∃ j : Nat, i ≤ j ∧ j ≤ k' ∧ v = .int .i64 j ∧ Kept wb wr ∧ (∀ (j' : Nat) (x' y' : Iv), i ≤ j' → j' < j → (spn rs cs)[i]? = some x' → (spn rs cs)[j']? = some y' → emI (bV x' y') = false)) (fun v _ => k' - (intOf v).toNat)
                  case atStart => exact ⟨i, by omega, by omega, rfl, HKD.out, fun _ _ _ h h2 => absurd h2 (by omega)⟩
                  case round =>
                    obtain ⟨j, hij, hj, rfl, hke, hin⟩ := hrel
                    have HIN := Lib.hid hin
                    have HKE := Lib.hid hke
                    clear hin
                    by_cases hlt6 : j < k'
                    · have kw := KX.out.trans hke
                      obtain ⟨we, rfl⟩ : ∃ we, we = wr := ⟨_, rfl⟩
                      obtain ⟨r, hr⟩ : ∃ r, rs[i]? = some r := ⟨rs[i]'(by rw [HR.out.1]; omega), List.getElem?_eq_getElem (by rw [HR.out.1]; omega)⟩
                      obtain ⟨x, hx⟩ : ∃ x, cs[i]? = some x := ⟨cs[i]'(by rw [HC.out.1]; omega), List.getElem?_eq_getElem (by rw [HC.out.1]; omega)⟩
                      have HRK := Lib.hid hr
                      have HXK := Lib.hid hx
                      have p0 := (kw.cells _ _ (cell_lt (HTR.out i r hr 0 _ rfl))).trans (HTR.out i r hr 0 _ rfl)
                      have p1 := (kw.cells _ _ (cell_lt (HTR.out i r hr 1 _ rfl))).trans (HTR.out i r hr 1 _ rfl)
                      have q0 := (kw.cells _ _ (cell_lt (HTC.out i x hx 0 _ rfl))).trans (HTC.out i x hx 0 _ rfl)
                      have q1 := (kw.cells _ _ (cell_lt (HTC.out i x hx 1 _ rfl))).trans (HTC.out i x hx 1 _ rfl)
                      have q2 := (kw.cells _ _ (cell_lt (HTC.out i x hx 2 _ rfl))).trans (HTC.out i x hx 2 _ rfl)
                      have q3 := (kw.cells _ _ (cell_lt (HTC.out i x hx 3 _ rfl))).trans (HTC.out i x hx 3 _ rfl)
                      have q4 := (kw.cells _ _ (cell_lt (HTC.out i x hx 4 _ rfl))).trans (HTC.out i x hx 4 _ rfl)
                      simp only [Nat.add_zero] at p0 q0
                      have lp := cell_lt p0
                      have lq := cell_lt q0
                      clear hr hx
                      clear kw hke q0 q1 q2 q3 q4 p0 p1 lp lq
                      obtain ⟨⟨sl, sh, so⟩, hS⟩ : ∃ S : Iv, S = ocV r x := ⟨_, rfl⟩
                      have H27 : RowKit.Hid (∀ W, Calls Try.prog 27 #[.agg #[.int .i64 r.m, .int .i64 r.d], .agg #[.int .i64 x.id, .int .i64 x.dy, .int .i64 x.sh, .int .i64 x.nu, .int .i64 x.wo]] W fun e w' => e = .returned (.tuple #[.agg #[.int .i64 sl, .int .i64 sh, .bool so], .int .i64 0]) ∧ Kept W w') := Lib.hid (fun W => by
                        have := rofCount_any r.m r.d x.id x.dy x.sh x.nu x.wo W
                        have hg : ocOk r.m r.d x.id x.dy x.sh x.nu x.wo = true := HALLOK.out i r x HRK.out HXK.out
                        rw [hg, errI_true] at this
                        unfold ocV at hS
                        injection hS with h1 h2 h3
                        rwa [← h1, ← h2, ← h3] at this)
                      have kw := KX.out.trans HKE.out
                      obtain ⟨r2, hrb⟩ : ∃ r2, rs[j]? = some r2 := ⟨rs[j]'(by rw [HR.out.1]; omega), List.getElem?_eq_getElem (by rw [HR.out.1]; omega)⟩
                      obtain ⟨x2, hxb⟩ : ∃ x2, cs[j]? = some x2 := ⟨cs[j]'(by rw [HC.out.1]; omega), List.getElem?_eq_getElem (by rw [HC.out.1]; omega)⟩
                      have HRKb := Lib.hid hrb
                      have HXKb := Lib.hid hxb
                      have pb0 := (kw.cells _ _ (cell_lt (HTR.out j r2 hrb 0 _ rfl))).trans (HTR.out j r2 hrb 0 _ rfl)
                      have pb1 := (kw.cells _ _ (cell_lt (HTR.out j r2 hrb 1 _ rfl))).trans (HTR.out j r2 hrb 1 _ rfl)
                      have qb0 := (kw.cells _ _ (cell_lt (HTC.out j x2 hxb 0 _ rfl))).trans (HTC.out j x2 hxb 0 _ rfl)
                      have qb1 := (kw.cells _ _ (cell_lt (HTC.out j x2 hxb 1 _ rfl))).trans (HTC.out j x2 hxb 1 _ rfl)
                      have qb2 := (kw.cells _ _ (cell_lt (HTC.out j x2 hxb 2 _ rfl))).trans (HTC.out j x2 hxb 2 _ rfl)
                      have qb3 := (kw.cells _ _ (cell_lt (HTC.out j x2 hxb 3 _ rfl))).trans (HTC.out j x2 hxb 3 _ rfl)
                      have qb4 := (kw.cells _ _ (cell_lt (HTC.out j x2 hxb 4 _ rfl))).trans (HTC.out j x2 hxb 4 _ rfl)
                      simp only [Nat.add_zero] at pb0 qb0
                      have lpb := cell_lt pb0
                      have lqb := cell_lt qb0
                      clear hrb hxb
                      clear kw
                      obtain ⟨⟨slb, shb, sob⟩, hSb⟩ : ∃ S : Iv, S = ocV r2 x2 := ⟨_, rfl⟩
                      have H27b : RowKit.Hid (∀ W, Calls Try.prog 27 #[.agg #[.int .i64 r2.m, .int .i64 r2.d], .agg #[.int .i64 x2.id, .int .i64 x2.dy, .int .i64 x2.sh, .int .i64 x2.nu, .int .i64 x2.wo]] W fun e w' => e = .returned (.tuple #[.agg #[.int .i64 slb, .int .i64 shb, .bool sob], .int .i64 0]) ∧ Kept W w') := Lib.hid (fun W => by
                        have := rofCount_any r2.m r2.d x2.id x2.dy x2.sh x2.nu x2.wo W
                        have hg : ocOk r2.m r2.d x2.id x2.dy x2.sh x2.nu x2.wo = true := HALLOK.out j r2 x2 HRKb.out HXKb.out
                        rw [hg, errI_true] at this
                        unfold ocV at hSb
                        injection hSb with h1 h2 h3
                        rwa [← h1, ← h2, ← h3] at this)
                      have kw := KX.out.trans HKE.out
                      have p0 := (kw.cells _ _ (cell_lt (HTR.out i r HRK.out 0 _ rfl))).trans (HTR.out i r HRK.out 0 _ rfl)
                      have p1 := (kw.cells _ _ (cell_lt (HTR.out i r HRK.out 1 _ rfl))).trans (HTR.out i r HRK.out 1 _ rfl)
                      have q0 := (kw.cells _ _ (cell_lt (HTC.out i x HXK.out 0 _ rfl))).trans (HTC.out i x HXK.out 0 _ rfl)
                      have q1 := (kw.cells _ _ (cell_lt (HTC.out i x HXK.out 1 _ rfl))).trans (HTC.out i x HXK.out 1 _ rfl)
                      have q2 := (kw.cells _ _ (cell_lt (HTC.out i x HXK.out 2 _ rfl))).trans (HTC.out i x HXK.out 2 _ rfl)
                      have q3 := (kw.cells _ _ (cell_lt (HTC.out i x HXK.out 3 _ rfl))).trans (HTC.out i x HXK.out 3 _ rfl)
                      have q4 := (kw.cells _ _ (cell_lt (HTC.out i x HXK.out 4 _ rfl))).trans (HTC.out i x HXK.out 4 _ rfl)
                      simp only [Nat.add_zero] at p0 q0
                      have lp := cell_lt p0
                      have lq := cell_lt q0
                      clear kw
                      have hj0 : (0 : Int) ≤ (j : Int) := by omega
                      have hj1 : (j : Int) < (k' : Int) := by omega
                      go_upto_region 24 with (fail)
                      go_cut [14, 15] (fun sa sb wx => ∃ bx, sa = .pointer (some ⟨bx, 0, none⟩) ∧ sb = .int .i64 0 ∧ we.heap.size ≤ bx ∧ RowC wx bx [.int .i64 sl, .int .i64 sh, .bool so] ∧ Kept we wx)
                      case first =>
                        go_region_law (first
                          | (rw [if_pos (by rfl)]; go_simp; refine (H27.out _).mono ?_; rintro e w9 ⟨rfl, hk9⟩; have kk9 : Kept we w9 := (by with_reducible exact (Kept.refl we).drew.trans hk9); go_wp2_with fail)
                          | (rw [if_pos (by rfl)]; go_simp; refine (H27.out _).mono ?_; rintro e w9 ⟨rfl, hk9⟩; have kk9 : Kept we w9 := (by with_reducible exact ((Kept.refl we).alloc _).drew.trans hk9); have rz := ((RowC.new we [.int .i64 0, .int .i64 0, .bool false] 34).drew).kept hk9; have z0 := (rz 0 _ rfl).1; have z1 := (rz 1 _ rfl).1; have z2 := (rz 2 _ rfl).1; have y0 := (rz 0 _ rfl).2; have y1 := (rz 1 _ rfl).2; have y2 := (rz 2 _ rfl).2; have lz := cell_lt z0; go_wp2_with fail)
                          | fail)
                        all_goals go_wp2
                        all_goals go_meet
                        all_goals first
                          | exact ⟨w9.heap.size, rfl, rfl, kk9.size, RowC.new w9 [.int .i64 sl, .int .i64 sh, .bool so] 34, kk9.alloc _⟩
                          | exact ⟨we.heap.size, rfl, rfl, Nat.le_refl _, by simpa using ((rz.put (j := 0) (by simp) (.int .i64 sl)).put (j := 1) (by simp) (.int .i64 sh)).put (j := 2) (by simp) (.bool so), ((kk9.setCell (Nat.le_refl _) _).setCell (Nat.le_refl _) _).setCell (Nat.le_refl _) _⟩
                      obtain ⟨bx, rfl, rfl, hbx, rx, kx⟩ := hcut
                      obtain ⟨wf, rfl⟩ : ∃ wf, wf = wc := ⟨_, rfl⟩
                      have RX := Lib.hid rx
                      have KXC := Lib.hid kx
                      replace pb0 := (kx.cells _ _ lpb).trans pb0
                      replace pb1 := (kx.cells _ _ lpb).trans pb1
                      replace qb0 := (kx.cells _ _ lqb).trans qb0
                      replace qb1 := (kx.cells _ _ lqb).trans qb1
                      replace qb2 := (kx.cells _ _ lqb).trans qb2
                      replace qb3 := (kx.cells _ _ lqb).trans qb3
                      replace qb4 := (kx.cells _ _ lqb).trans qb4
                      replace lpb := cell_lt pb0
                      replace lqb := cell_lt qb0
                      clear rx kx p0 p1 q0 q1 q2 q3 q4 lp lq
                      go_upto_region 25 with (fail)
                      go_cut [16, 17] (fun sa sb wx => ∃ bx, sa = .pointer (some ⟨bx, 0, none⟩) ∧ sb = .int .i64 0 ∧ wf.heap.size ≤ bx ∧ RowC wx bx [.int .i64 slb, .int .i64 shb, .bool sob] ∧ Kept wf wx)
                      case first =>
                        go_region_law (first
                          | (rw [if_pos (by rfl)]; go_simp; refine (H27b.out _).mono ?_; rintro e w9 ⟨rfl, hk9⟩; have kk9 : Kept wf w9 := (by with_reducible exact (Kept.refl wf).drew.trans hk9); go_wp2_with fail)
                          | (rw [if_pos (by rfl)]; go_simp; refine (H27b.out _).mono ?_; rintro e w9 ⟨rfl, hk9⟩; have kk9 : Kept wf w9 := (by with_reducible exact ((Kept.refl wf).alloc _).drew.trans hk9); have rz := ((RowC.new wf [.int .i64 0, .int .i64 0, .bool false] 34).drew).kept hk9; have z0 := (rz 0 _ rfl).1; have z1 := (rz 1 _ rfl).1; have z2 := (rz 2 _ rfl).1; have y0 := (rz 0 _ rfl).2; have y1 := (rz 1 _ rfl).2; have y2 := (rz 2 _ rfl).2; have lz := cell_lt z0; go_wp2_with fail)
                          | fail)
                        all_goals go_wp2
                        all_goals go_meet
                        all_goals first
                          | exact ⟨w9.heap.size, rfl, rfl, kk9.size, RowC.new w9 [.int .i64 slb, .int .i64 shb, .bool sob] 34, kk9.alloc _⟩
                          | exact ⟨wf.heap.size, rfl, rfl, Nat.le_refl _, by simpa using ((rz.put (j := 0) (by simp) (.int .i64 slb)).put (j := 1) (by simp) (.int .i64 shb)).put (j := 2) (by simp) (.bool sob), ((kk9.setCell (Nat.le_refl _) _).setCell (Nat.le_refl _) _).setCell (Nat.le_refl _) _⟩
                      obtain ⟨by', rfl, rfl, hby, ry, ky⟩ := hcut
                      obtain ⟨wg, rfl⟩ : ∃ wg, wg = wc := ⟨_, rfl⟩
                      have rx := RX.out.kept ky
                      have x0 := (rx 0 _ rfl).1
                      have x1 := (rx 1 _ rfl).1
                      have x2' := (rx 2 _ rfl).1
                      have y0 := (ry 0 _ rfl).1
                      have y1 := (ry 1 _ rfl).1
                      have y2 := (ry 2 _ rfl).1
                      have lx := cell_lt x0
                      have ly := cell_lt y0
                      have KG := Lib.hid (HKE.out.trans (KXC.out.trans ky))
                      have hgS : goodV ⟨sl, sh, so⟩ := by rw [hS]; exact ocV_ok r x
                      have hgT : goodV ⟨slb, shb, sob⟩ := by rw [hSb]; exact ocV_ok r2 x2
                      obtain ⟨⟨ga, gb, gs⟩, hG⟩ : ∃ G : Iv, G = bV ⟨sl, sh, so⟩ ⟨slb, shb, sob⟩ := ⟨_, rfl⟩
                      have H34 : RowKit.Hid (∀ W, Calls Try.prog 34 #[.agg #[.int .i64 sl, .int .i64 sh, .bool so], .agg #[.int .i64 slb, .int .i64 shb, .bool sob]] W fun e w' => e = .returned (.agg #[.int .i64 ga, .int .i64 gb, .bool gs]) ∧ Kept W w') := Lib.hid (fun W => by have := rbothV sl sh slb shb so sob hgS hgT W; rwa [← hG] at this)
                      have HSI : RowKit.Hid ((spn rs cs)[i]? = some ⟨sl, sh, so⟩) := Lib.hid (by rw [hS]; exact spn_at HRK.out HXK.out)
                      have HSJ : RowKit.Hid ((spn rs cs)[j]? = some ⟨slb, shb, sob⟩) := Lib.hid (by rw [hSb]; exact spn_at HRKb.out HXKb.out)
                      have HEM : RowKit.Hid (emI (bV ⟨sl, sh, so⟩ ⟨slb, shb, sob⟩) = !gs) := Lib.hid (by rw [emp_good (bV_good hgS hgT).1, ← hG])
                      clear rx ry ky hgS hgT hG hS hSb pb0 pb1 qb0 qb1 qb2 qb3 qb4 lpb lqb hj0 hj1
                      go_wp2_with fail
                      refine (H34.out _).mono ?_
                      rintro e w10 ⟨rfl, hk10⟩
                      have K10 := Lib.hid (KG.out.trans hk10)
                      clear hk10 x0 x1 x2' y0 y1 y2 lx ly
                      cases gs
                      · have r4 := R4.out.kept K10.out
                        have a0 := (r4 0 _ rfl).1
                        have a1 := (r4 1 _ rfl).1
                        have a2 := (r4 2 _ rfl).1
                        have f0 := (r4 0 _ rfl).2
                        have f1 := (r4 1 _ rfl).2
                        have f2 := (r4 2 _ rfl).2
                        have la := cell_lt a0
                        have la1 : w.heap.size < w10.heap.size + 1 := by omega
                        have KY := Lib.hid (KX.out.trans K10.out)
                        go_wp2
                        have rr := (((r4.put (j := 0) (by simp) (.int .i64 0)).put (j := 1) (by simp) (.int .i64 0)).put (j := 2) (by simp) (.bool false)).kept ((Kept.refl _).alloc (.cells #[.int .i64 i, .int .i64 j] 3))
                        have v0 := (rr 0 _ rfl).1
                        have v1 := (rr 1 _ rfl).1
                        have v2 := (rr 2 _ rfl).1
                        refine bodyPost_ret (v := .tuple #[.agg #[.int .i64 0, .int .i64 0, .bool false], .slice (some ⟨w10.heap.size, 0, none⟩) 2 2, .int .i64 0]) (by simp [results, Try.results38, go_sem, v0, v1, v2]) rfl ⟨⟨0, 0, false⟩, [(i : Int), (j : Int)], 0, _, _, _, rfl, two_any _ _ _ _ (RowC.atn (vs := [.int .i64 i, .int .i64 j]) (by simp)), PR.out _ (.inl ⟨i, j, _, _, rfl, hij, HSI.out, HSJ.out, HEM.out, ?_⟩), ?_⟩
                        · rintro i' j' x' y' hij' (h | ⟨rfl, h⟩) hx' hy'
                          · exact HNO.out i' j' x' y' hij' h hx' hy'
                          · exact HIN.out j' x' y' hij' h hx' hy'
                        · exact ((((KY.out.setCell (by simp) _).setCell (by simp) _).setCell (by simp) _)).alloc _
                      · go_wp2
                        go_roundw
                        case rel =>
                          have g3 : ∀ (j' : Nat) (x' y' : Iv), i ≤ j' → j' < j + 1 → (spn rs cs)[i]? = some x' → (spn rs cs)[j']? = some y' → emI (bV x' y') = false := by
                            intro j' x' y' hij' hj' hx' hy'
                            rcases Nat.lt_or_eq_of_le (Nat.le_of_lt_succ hj') with h | h
                            · exact HIN.out j' x' y' hij' h hx' hy'
                            · subst h
                              have h1 := HSI.out
                              have h2 := HSJ.out
                              rw [hx'] at h1
                              rw [hy'] at h2
                              cases h1
                              cases h2
                              exact HEM.out
                          first
                            | exact ⟨j + 1, by omega, by omega, by go_num, K10.out, g3⟩
                            | ((repeat apply Exists.intro); exact ⟨⟨j + 1, by omega, by omega, by go_num, K10.out, g3⟩, rfl⟩)
                        case measure => simp [intOf] <;> omega
                    · obtain rfl : j = k' := by omega
                      clear hke
                      go_wp2
                      go_roundw
                      case rel =>
                        have g3 : ∀ (i' j' : Nat) (x' y' : Iv), i' ≤ j' → i' < i + 1 → (spn rs cs)[i']? = some x' → (spn rs cs)[j']? = some y' → emI (bV x' y') = false := by
                          intro i' j' x' y' hij' hi' hx' hy'
                          rcases Nat.lt_or_eq_of_le (Nat.le_of_lt_succ hi') with h | h
                          · exact HNO.out i' j' x' y' hij' h hx' hy'
                          · subst h
                            have h1 := (List.getElem?_eq_some_iff.1 hy').1
                            rw [HLEN.out] at h1
                            exact HIN.out j' x' y' hij' h1 hx' hy'
                        first
                          | exact ⟨i + 1, by omega, by go_num, HKE.out, g3⟩
                          | ((repeat apply Exists.intro); exact ⟨⟨i + 1, by omega, by go_num, HKE.out, g3⟩, rfl⟩)
                      case measure => simp [intOf] <;> omega
                · obtain rfl : i = k' := by omega
                  have r4 := R4.out.kept HKD.out
                  have a0 := (r4 0 _ rfl).1
                  have a1 := (r4 1 _ rfl).1
                  have a2 := (r4 2 _ rfl).1
                  have f0 := (r4 0 _ rfl).2
                  have f1 := (r4 1 _ rfl).2
                  have f2 := (r4 2 _ rfl).2
                  have KY := Lib.hid (KX.out.trans HKD.out)
                  clear r4
                  go_wp2
                  refine bodyPost_ret (v := .tuple #[.agg #[.int .i64 0, .int .i64 0, .bool false], .slice none 0 0, .int .i64 0]) (by simp [results, Try.results38, go_sem, a0, a1, a2]) rfl ⟨⟨0, 0, false⟩, [], 0, none, 0, 0, rfl, IntA.nil _, PR.out _ (.inr ⟨rfl, fun i' j' x' y' hij' hx' hy' => HNO.out i' j' x' y' hij' ?_ hx' hy'⟩), ?_⟩
                  · have h1 := (List.getElem?_eq_some_iff.1 hx').1
                    rw [HLEN.out] at h1
                    exact h1
                  · exact ((KY.out.setCell (by simp; try omega) _).setCell (by simp; try omega) _).setCell (by simp; try omega) _
            · have a0 := (R4.out 0 _ rfl).1
              have a1 := (R4.out 1 _ rfl).1
              have a2 := (R4.out 2 _ rfl).1
              have f0 := (R4.out 0 _ rfl).2
              have f1 := (R4.out 1 _ rfl).2
              have f2 := (R4.out 2 _ rfl).2
              have la := cell_lt a0
              have hso : (foldB a100 (spn rs cs)).so = true := by rw [← HF.out]
              have HNS := Lib.hid (none_some spn_good hso)
              clear hso
              go_wp2
              refine bodyPost_ret (v := .tuple #[.agg #[.int .i64 fa, .int .i64 fb, .bool true], .slice none 0 0, .int .i64 0]) (by simp [results, Try.results38, go_sem, a0, a1, a2]) rfl ⟨⟨fa, fb, true⟩, [], 0, none, 0, 0, rfl, IntA.nil _, PR.out _ HNS.out, ?_⟩
              exact ((KX.out.setCell (by simp; try omega) _).setCell (by simp; try omega) _).setCell (by simp; try omega) _
  · go_enter Try.func38, Try.ntmps38
    go_upto_region 1 with (fail)
    rw [← HW.out]
    have hzb : ((n : Int) == 0) = false := by simp; omega
    have hnb : ((n1 : Int) == (n : Int)) = false := by simp; omega
    go_wp2
    refine bodyPost_ret (v := .tuple #[.agg #[.int .i64 0, .int .i64 0, .bool false], .slice none 0 0, .int .i64 1]) (by simp [results, Try.results38, go_sem, a0, a1, a2]) rfl ⟨iv0, [], 1, none, 0, 0, rfl, IntA.nil _, .inr (.inl ⟨rfl, by rw [HC.out.1]; omega, .inr (.inl (by rw [HR.out.1, HC.out.1]; exact h11)), rfl, rfl⟩), ?_⟩
    exact ((K0.out.setCell (by simp; try omega) _).setCell (by simp; try omega) _).setCell (by simp; try omega) _
end Go.Proofs.Ytjaicilnlgjdcaa
