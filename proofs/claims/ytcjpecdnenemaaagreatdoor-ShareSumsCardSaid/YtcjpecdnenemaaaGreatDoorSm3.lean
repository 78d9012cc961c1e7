/-
  Sum, of the reference.
-/
import Derived.Test.YtcjpecdnenemaaaGreatDoorSm2
import Derived.Test.YtcjpecdnenemaaaGreatDoorGC
namespace Go.Proofs.YtcjpecdnenemaaaGreatDoor
set_option linter.all false
open Go.RowKit Go.Shelf

theorem addS_okL {a b c d : Int} (h1 : vld a b = true) (h2 : vld c d = true) : addS a b c d = okL (addO (some (a, b)) (c, d)) := by
  unfold addS addO
  rw [h1, h2]; rfl
theorem SK_of {V W : World} {q bb i : Nat} {a b c d : Int} (h1 : V.cell? ⟨q, 0, none⟩ = some (.int .i64 a)) (h2 : V.cell? ⟨q, 1, none⟩ = some (.int .i64 b)) (h3 : V.cell? ⟨bb, i, none⟩ = some (.int .i64 c)) (h4 : V.cell? ⟨bb, i + 1, none⟩ = some (.int .i64 d)) (hk : Kept V W) :
    W.cell? ⟨q, 0, none⟩ = some (.int .i64 a) ∧ W.cell? ⟨q, 1, none⟩ = some (.int .i64 b) ∧ W.cell? ⟨bb, i, none⟩ = some (.int .i64 c) ∧ W.cell? ⟨bb, i + 1, none⟩ = some (.int .i64 d) ∧ Kept V W :=
  ⟨(hk.cells _ _ (cell_lt h1)).trans h1, (hk.cells _ _ (cell_lt h2)).trans h2, (hk.cells _ _ (cell_lt h3)).trans h3, (hk.cells _ _ (cell_lt h4)).trans h4, hk⟩
theorem SK_step {V W W' : World} {q bb i : Nat} {a b c d : Int} (h : W.cell? ⟨q, 0, none⟩ = some (.int .i64 a) ∧ W.cell? ⟨q, 1, none⟩ = some (.int .i64 b) ∧ W.cell? ⟨bb, i, none⟩ = some (.int .i64 c) ∧ W.cell? ⟨bb, i + 1, none⟩ = some (.int .i64 d) ∧ Kept V W) (hk : Kept W W') :
    W'.cell? ⟨q, 0, none⟩ = some (.int .i64 a) ∧ W'.cell? ⟨q, 1, none⟩ = some (.int .i64 b) ∧ W'.cell? ⟨bb, i, none⟩ = some (.int .i64 c) ∧ W'.cell? ⟨bb, i + 1, none⟩ = some (.int .i64 d) ∧ Kept V W' := by
  obtain ⟨h1, h2, h3, h4, h5⟩ := h
  exact ⟨(hk.cells _ _ (cell_lt h1)).trans h1, (hk.cells _ _ (cell_lt h2)).trans h2, (hk.cells _ _ (cell_lt h3)).trans h3, (hk.cells _ _ (cell_lt h4)).trans h4, h5.trans hk⟩
set_option maxRecDepth 100000 in
set_option maxHeartbeats 6400000 in
theorem rsum_of (A : Option Addr) (n c : Nat) (es : List (Int × Int)) (s0 s1 s2 : Int) (hS : sumS es = (s0, s1, s2)) (w : World) (hF : FracsA w A n c es) :
    Calls Tryz.prog 35 #[.slice A n c] w fun e w' => e = .returned (.tuple #[.agg #[.int .i64 s0, .int .i64 s1], .int .i64 s2]) ∧ Kept w w' := by
  have HS := Lib.hid hS
  clear hS
  have HF := Lib.hid hF
  have hlen := hF.1
  have hnc := hF.2.1
  have hcm := hF.2.2.1
  have R1 := Lib.hid (RowC.new w [.int .i64 0, .int .i64 0] 23)
  have HK1 := Lib.hid ((Kept.refl w).alloc (.cells #[.int .i64 0, .int .i64 0] 23))
  clear hF
  by_cases hbig : n ≤ 1000
  · have hcmp : decide ((n : Int) > 1000) = false := by simp; omega
    go_enter Tryz.func35, Tryz.ntmps35
    go_wp2_with fail
    go_loopw [4] (fun i wr => ∃ k : Nat, k ≤ n ∧ i = .int .i64 k ∧ ((es.take k).all fun p => vld p.1 p.2) = true ∧ Kept (w.alloc (.cells #[.int .i64 0, .int .i64 0] 23)) wr) (fun i _ => n - (intOf i).toNat)
    case atStart => exact ⟨0, by omega, by first | rfl | go_num, rfl, Kept.refl _⟩
    case round =>
      obtain ⟨k, hk, rfl, hall, hkr⟩ := hrel
      have HA := Lib.hid hall
      have i0 : (0 : Int) ≤ (k : Int) := by omega
      clear hall hcmp
      by_cases hlt : k < n
      · obtain ⟨bb, off, hB, hcc⟩ := HF.out.2.2.2 (by omega)
        subst hB
        have hxl : k < es.length := by omega
        obtain ⟨p, hp⟩ : ∃ p, es[k]? = some p := ⟨es[k]'hxl, List.getElem?_eq_getElem hxl⟩
        have f0 := (hcc k p hp).1
        have f1 := (hcc k p hp).2
        have v0 := ((HK1.out.trans hkr).cells _ _ (cell_lt f0)).trans f0
        have v1 := ((HK1.out.trans hkr).cells _ _ (cell_lt f1)).trans f1
        have i1 : (k : Int) < (n : Int) := by omega
        have it : (k : Int).toNat = k := by omega
        have HP := Lib.hid hp
        clear hcc hp f0 f1
        go_wp2_with fail
        refine (rvalid_any _ _ _).mono ?_
        rintro e w2 ⟨rfl, hk2⟩
        have kk := Lib.hid (hkr.trans hk2)
        rcases hvp : vld p.1 p.2 with _ | _
        · have hs := sumS_bad (by omega) (not_all HP.out hvp)
          rw [HS.out] at hs
          simp only [Prod.mk.injEq] at hs
          obtain ⟨rfl, rfl, rfl⟩ := hs
          have T := R1.out.kept kk.out
          have e0 := (T 0 _ rfl).1
          have e1 := (T 1 _ rfl).1
          have z0 := (T 0 _ rfl).2
          have z1 := (T 1 _ rfl).2
          have lt := cell_lt e0
          clear T
          go_wp2_with fail
          refine bodyPost_ret (v := .tuple #[.agg #[.int .i64 0, .int .i64 0], .int .i64 1]) (by simp [results, Tryz.results35, go_sem, e0, e1]) rfl ⟨rfl, ?_⟩
          exact ((HK1.out.trans kk.out).setCell (by first | (simp; done) | (simp; omega)) _).setCell (by first | (simp; done) | (simp; omega)) _
        · go_wp2_with fail
          go_roundw
          case rel => exact ⟨k + 1, by omega, by go_num, all_take HA.out HP.out hvp, kk.out⟩
          case measure => simp [intOf]; omega
      · obtain rfl : k = n := by omega
        have hall2 := HA.out
        rw [List.take_of_length_le (by omega)] at hall2
        have HEV := Lib.hid (List.all_eq_true.1 hall2)
        have hs := sumS_all (by omega) hall2
        rw [HS.out] at hs
        have HS' := Lib.hid hs
        have T4 := Lib.hid (RowC.new wr [.int .i64 0, .int .i64 1] 23)
        have T1 := Lib.hid (R1.out.kept (hkr.alloc (.cells #[.int .i64 0, .int .i64 1] 23)))
        have K2 := Lib.hid ((HK1.out.trans hkr).alloc (.cells #[.int .i64 0, .int .i64 1] 23))
        have lq := cell_lt (R1.out.kept hkr 0 _ rfl).1
        rename World => wo
        clear hall2 hs hkr
        go_wp2_with fail
        go_loopw [7] (fun i wl => ∃ (k2 : Nat) (a b : Int), k2 ≤ k ∧ i = .int .i64 k2 ∧ sumF (es.take k2) = some (a, b) ∧ RowC wl wo.heap.size [.int .i64 a, .int .i64 b] ∧ RowC wl w.heap.size [.int .i64 0, .int .i64 0] ∧ Kept w wl ∧ wo.heap.size < wl.heap.size) (fun i _ => k - (intOf i).toNat)
        case atStart => exact ⟨0, 0, 1, by omega, by first | rfl | go_num, rfl, T4.out, T1.out, K2.out, by simp⟩
        case round =>
          obtain ⟨k2, a, b, hk2, rfl, hu, hr4, hr1, hkl, hzl⟩ := hrel
          have HU := Lib.hid hu
          have H4 := Lib.hid hr4
          have H1 := Lib.hid hr1
          have j0 : (0 : Int) ≤ (k2 : Int) := by omega
          clear hu hr4 hr1 T4 T1
          by_cases hlt2 : k2 < k
          · obtain ⟨bb, off, hB, hcc⟩ := HF.out.2.2.2 (by omega)
            subst hB
            have hxl : k2 < es.length := by omega
            obtain ⟨p, hp⟩ : ∃ p, es[k2]? = some p := ⟨es[k2]'hxl, List.getElem?_eq_getElem hxl⟩
            have f0 := (hcc k2 p hp).1
            have f1 := (hcc k2 p hp).2
            have v0 := (hkl.cells _ _ (cell_lt f0)).trans f0
            have v1 := (hkl.cells _ _ (cell_lt f1)).trans f1
            have q0 := (H4.out 0 _ rfl).1
            have q1 := (H4.out 1 _ rfl).1
            have lb := cell_lt v0
            have lqq := cell_lt q0
            have i1 : (k2 : Int) < (k : Int) := by omega
            have it : (k2 : Int).toNat = k2 := by omega
            have hav := sumF_vld _ (0, 1) (a, b) (by decide) HU.out
            have hpv : vld p.1 p.2 = true := HEV.out p (List.mem_of_getElem? hp)
            have hsn : sumF (es.take (k2 + 1)) = addO (some (a, b)) p := by rw [take_snoc' hp, sumF_snoc, HU.out]
            have C := fun W => radd_any a b p.1 p.2 W
            rw [addS_okL hav hpv] at C
            rcases hadd : addO (some (a, b)) p with _ | ⟨r1, r2⟩
            · rw [hadd] at hsn
              have hs := HS'.out
              rw [sumF_none_of hsn] at hs
              simp only [okL, Prod.mk.injEq] at hs
              obtain ⟨rfl, rfl, rfl⟩ := hs
              rw [show (p.1, p.2) = p from rfl, hadd] at C
              simp only [okL] at C
              have HC := Lib.hid C
              have S0 := Lib.hid (SK_of q0 q1 v0 v1 ((Kept.refl wr).drew))
              clear C hsn hadd hcc hp f0 f1 hav hpv
              go_wp2_with fail
              go_region_with (go_at_call 28; refine (HC.out _).mono ?_; rintro e w3 ⟨rfl, hk3⟩; first | (have T : RowC w3 wr.heap.size [.int .i64 0, .int .i64 0] := RowC.kept (by first | exact RowC.new _ [.int .i64 0, .int .i64 0] 23 | exact RowC.drew (RowC.new _ [.int .i64 0, .int .i64 0] 23)) hk3; have t0 := (T 0 _ rfl).1; have t1 := (T 1 _ rfl).1; have y0 := (T 0 _ rfl).2; have y1 := (T 1 _ rfl).2; have hl := cell_lt t0; clear T) | skip)
              all_goals
                have kk3 : Kept wr w3 := by first | exact ((Kept.refl _).drew).trans hk3 | exact (((Kept.refl _).alloc _).drew).trans hk3
                have TT := H1.out.kept kk3
                have e0 := (TT 0 _ rfl).1
                have e1 := (TT 1 _ rfl).1
                have z0 := (TT 0 _ rfl).2
                have z1 := (TT 1 _ rfl).2
                have lt := cell_lt e0
                have KK := Lib.hid (hkl.trans kk3)
                clear TT kk3 hk3
                go_wp2_with fail
                refine bodyPost_ret (v := .tuple #[.agg #[.int .i64 0, .int .i64 0], .int .i64 2]) (by simp [results, Tryz.results35, go_sem, e0, e1, lt]) rfl ⟨rfl, ?_⟩
                first
                  | exact ((KK.out.setCell (by first | (simp; done) | (simp; omega)) _).setCell (by first | (simp; done) | (simp; omega)) _).alloc _
                  | exact (((KK.out.setCell (by simp; omega) _).setCell (by simp; omega) _).setCell (by first | (simp; done) | (simp; omega)) _).setCell (by first | (simp; done) | (simp; omega)) _
            · rw [hadd] at hsn
              rw [show (p.1, p.2) = p from rfl, hadd] at C
              simp only [okL] at C
              have HC := Lib.hid C
              have HR := Lib.hid hsn
              have S0 := Lib.hid (SK_of q0 q1 v0 v1 ((Kept.refl wr).drew))
              clear C hsn hadd hcc hp f0 f1 hav hpv
              go_wp2_with fail
              go_region_with (go_at_call 28; refine (HC.out _).mono ?_; rintro e w3 ⟨rfl, hk3⟩; first | (have T : RowC w3 wr.heap.size [.int .i64 0, .int .i64 0] := RowC.kept (by first | exact RowC.new _ [.int .i64 0, .int .i64 0] 23 | exact RowC.drew (RowC.new _ [.int .i64 0, .int .i64 0] 23)) hk3; have t0 := (T 0 _ rfl).1; have t1 := (T 1 _ rfl).1; have y0 := (T 0 _ rfl).2; have y1 := (T 1 _ rfl).2; have hl := cell_lt t0; clear T) | skip)
              all_goals
                have kk3 : Kept wr w3 := by first | exact ((Kept.refl _).drew).trans hk3 | exact (((Kept.refl _).alloc _).drew).trans hk3
                have TT := Lib.hid (H1.out.kept kk3)
                have UU := Lib.hid (H4.out.kept kk3)
                have e0 := (UU.out 0 _ rfl).1
                have e1 := (UU.out 1 _ rfl).1
                have z0 := (UU.out 0 _ rfl).2
                have z1 := (UU.out 1 _ rfl).2
                have lt := cell_lt e0
                have KK := Lib.hid (hkl.trans kk3)
                clear kk3 hk3
                go_wp2_with fail
                go_roundw
                case rel =>
                  refine ⟨k2 + 1, r1, r2, by omega, by go_num, HR.out, ?_, ?_, ?_, ?_⟩
                  · first
                      | exact ((UU.out.put (j := 0) (by simp) _).put (j := 1) (by simp) _).kept ((Kept.refl _).alloc _)
                      | exact (((UU.out.far (by omega) _).far (by omega) _).put (j := 0) (by simp) _).put (j := 1) (by simp) _
                  · first
                      | exact ((TT.out.far (by omega) _).far (by omega) _).kept ((Kept.refl _).alloc _)
                      | exact (((TT.out.far (by omega) _).far (by omega) _).far (by omega) _).far (by omega) _
                  · first
                      | exact ((KK.out.setCell (by simp; omega) _).setCell (by simp; omega) _).alloc _
                      | exact (((KK.out.setCell (by simp; omega) _).setCell (by simp; omega) _).setCell (by simp; omega) _).setCell (by simp; omega) _
                  · simp; omega
                case measure => simp [intOf]; omega
          · obtain rfl : k2 = k := by omega
            have hu2 := HU.out
            rw [List.take_of_length_le (by omega)] at hu2
            have hs := HS'.out
            rw [hu2] at hs
            simp only [okL, Prod.mk.injEq] at hs
            obtain ⟨rfl, rfl, rfl⟩ := hs
            have u0 := (H4.out 0 _ rfl).1
            have u1 := (H4.out 1 _ rfl).1
            have e0 := (H1.out 0 _ rfl).1
            have e1 := (H1.out 1 _ rfl).1
            have z0 := (H1.out 0 _ rfl).2
            have z1 := (H1.out 1 _ rfl).2
            have lt := cell_lt e0
            clear hu2
            go_wp2_with fail
            refine bodyPost_ret (v := .tuple #[.agg #[.int .i64 s0, .int .i64 s1], .int .i64 0]) (by simp [results, Tryz.results35, go_sem, e0, e1, lt]) rfl ⟨rfl, ?_⟩
            exact (hkl.setCell (by first | (simp; done) | (simp; omega)) _).setCell (by first | (simp; done) | (simp; omega)) _
  · have hs := sumS_far (es := es) (by omega)
    rw [HS.out] at hs
    simp only [Prod.mk.injEq] at hs
    obtain ⟨rfl, rfl, rfl⟩ := hs
    have hcmp : decide ((n : Int) > 1000) = true := by simp; omega
    go_enter Tryz.func35, Tryz.ntmps35
    go_wp2_with fail
    have e0 := (R1.out 0 _ rfl).1
    have e1 := (R1.out 1 _ rfl).1
    refine bodyPost_ret (v := .tuple #[.agg #[.int .i64 0, .int .i64 0], .int .i64 2]) (by simp [results, Tryz.results35, go_sem, e0, e1]) rfl ⟨rfl, ?_⟩
    exact HK1.out
theorem rsum_any (A : Option Addr) (n c : Nat) (es : List (Int × Int)) (w : World) (hF : FracsA w A n c es) :
    Calls Tryz.prog 35 #[.slice A n c] w fun e w' => e = .returned (.tuple #[.agg #[.int .i64 (sumS es).1, .int .i64 (sumS es).2.1], .int .i64 (sumS es).2.2]) ∧ Kept w w' := rsum_of A n c es _ _ _ rfl w hF
end Go.Proofs.YtcjpecdnenemaaaGreatDoor
