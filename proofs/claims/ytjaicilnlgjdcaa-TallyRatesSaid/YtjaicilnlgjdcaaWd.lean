/- the reference's Wrong -/
import Derived.Test.YtjaicilnlgjdcaaWc
namespace Go.Proofs.Ytjaicilnlgjdcaa
set_option linter.all false
open Go.RowKit Go.Shelf

theorem fitB_bad {m d : Int} {x : Rcn} (hx : rcB x = true) (hr : rateB m d = true) : fitB m d x.tr x.nu = !(bad m d x) := by
  have hb := rcB_bd hx
  rw [bad_eq hx hr, Bool.not_not]
  unfold fitB fitOk
  rw [hr, inB_iff.2 (by omega), inB_iff.2 (by omega)]
  simp
theorem cnt_ok {xs : List Rcn} {known : Int} {x : Rcn} (h : (crI xs).2 = 0) (hx : x ∈ cntS xs known) : rcB x = true :=
  (((crI_iff xs).1 h).2.1 x (List.mem_filter.1 hx).1).1

set_option maxRecDepth 100000 in
set_option maxHeartbeats 4000000 in
theorem rwrong_any (m d sh known : Int) (A : Option Addr) (n c : Nat) (xs : List Rcn) (w : World) (hT : RcA w A n c xs) (hlt : n ≤ 1000000) :
    Calls Try.prog 54 #[.agg #[.int .i64 m, .int .i64 d], .slice A n c, .int .i64 sh, .int .i64 known] w (IdsRes w (wrI m d xs sh known).1 (wrI m d xs sh known).2) := by
  have HT := Lib.hid hT
  have hnc := hT.2.1
  have hcm := hT.2.2.1
  clear hT
  obtain ⟨i0, hnf, hz0, hz1, hz2⟩ := info_parts info3
  obtain ⟨W0, hW0⟩ : ∃ W0, W0 = w.alloc (.cells #[.int .i64 m, .int .i64 d] 23) := ⟨_, rfl⟩
  have K0 : RowKit.Hid (Kept w W0) := Lib.hid (by rw [hW0]; exact (Kept.refl _).alloc _)
  have r0 : RowC W0 w.heap.size [.int .i64 m, .int .i64 d] := by rw [hW0]; exact RowC.new w [.int .i64 m, .int .i64 d] 23
  have HW := Lib.hid hW0
  have R0 := Lib.hid r0
  have c0 := (r0 0 _ rfl).1
  have c1 := (r0 1 _ rfl).1
  have b0 := cell_lt c0
  clear hW0 r0
  obtain ⟨rb, hrb⟩ : ∃ rb, rb = rateB m d := ⟨_, rfl⟩
  have H21 : RowKit.Hid (∀ W, Calls Try.prog 21 #[.agg #[.int .i64 m, .int .i64 d]] W fun e w' => e = .returned (.int .i64 (errI rb)) ∧ Kept W w') := Lib.hid (fun W => by rw [hrb]; exact rrate_any m d W)
  obtain ⟨p, q, hpq⟩ : ∃ p q, crI xs = (p, q) := ⟨_, _, rfl⟩
  have H45 : RowKit.Hid (∀ W, Kept w W → Calls Try.prog 45 #[.slice A n c] W fun e w' => e = .returned (.tuple #[.int .i64 p, .int .i64 q]) ∧ Kept W w') := Lib.hid (fun W hW => by have := rcheckRecounts_any A n c xs W (HT.out.kept hW) hlt; rwa [hpq] at this)
  have HRB := Lib.hid hrb
  have HPQ := Lib.hid hpq
  clear hrb hpq
  cases rb
  · have HS : RowKit.Hid (wrI m d xs sh known = ([], 1)) := Lib.hid (by
      have h1 : chkI m d xs = 1 := by unfold chkI; rw [← HRB.out]; rfl
      unfold wrI; rw [if_neg (by rw [h1]; decide), h1])
    rw [errI_false] at H21
    go_enter Try.func54, Try.ntmps54
    go_upto_region 1 with (fail)
    rw [← HW.out]
    go_wp2_with fail
    refine (H21.out _).mono ?_
    rintro e w1 ⟨rfl, hk1⟩
    go_wp2
    go_ret2
    exact ⟨none, 0, 0, (by rw [HS.out]; rfl), (by rw [HS.out]; exact IntA.nil _), K0.out.trans hk1⟩
  rw [errI_true] at H21
  by_cases hq : q = 0
  · subst hq
    have hchk : chkI m d xs = 0 := by unfold chkI; rw [← HRB.out, HPQ.out]; rfl
    have hcr : (crI xs).2 = 0 := by rw [HPQ.out]
    have HR : RowKit.Hid (wrI m d xs sh known = (wrL m d (ofS xs known sh), 0)) := Lib.hid (by unfold wrI; rw [if_pos hchk])
    have HCR := Lib.hid hcr
    clear hchk hcr
    go_enter Try.func54, Try.ntmps54
    go_upto_region 1 with (fail)
    rw [← HW.out]
    go_wp2_with fail
    refine (H21.out _).mono ?_
    rintro e w1 ⟨rfl, hk1⟩
    go_wp2_with fail
    refine (H45.out _ (K0.out.trans hk1)).mono ?_
    rintro e w2 ⟨rfl, hk2⟩
    have k2 := hk1.trans hk2
    replace K0 := Lib.hid (K0.out.trans k2)
    replace R0 := Lib.hid (R0.out.kept k2)
    clear hk1 hk2 k2 c0 c1 b0
    go_upto_region 6 with (fail)
    go_wp2_with fail
    refine (rcounting_any A n c xs known w2 (HT.out.kept K0.out) hlt).mono ?_
    rintro e w4 ⟨A', n', c', rfl, hrec, -, hk4⟩
    have hn' : n' ≤ 1000000 := by
      have h1 := cntS_len xs known
      have h2 := hrec.1
      have h3 := HT.out.1
      omega
    obtain ⟨cs, hcs⟩ : ∃ cs, cs = cntS xs known := ⟨_, rfl⟩
    rw [← hcs] at hrec
    have hnc' := hrec.2.1
    have hcm' := hrec.2.2.1
    have HLEN := Lib.hid hrec.1
    have HREC := Lib.hid hrec
    have HCS : RowKit.Hid (∀ x ∈ cs, fitB m d x.tr x.nu = !(bad m d x)) := Lib.hid (fun x hx => by rw [hcs] at hx; exact fitB_bad (cnt_ok HCR.out hx) HRB.out.symm)
    replace R0 := Lib.hid (R0.out.kept hk4)
    replace K0 := Lib.hid (K0.out.trans hk4)
    replace HR : RowKit.Hid (wrI m d xs sh known = (wrL m d (shF sh cs), 0)) := Lib.hid (by rw [HR.out, hcs]; rfl)
    clear hrec hk4 hcs
    go_wp2_with fail
    go_loopw [13, 14] (fun v i wr => ∃ k : Nat, k ≤ n' ∧ i = .int .i64 k ∧ Kept w4 wr ∧ wr.ownsRow w4.heap.size 3 1 v (wrL m d (shF sh (cs.take k))).length ((wrL m d (shF sh (cs.take k))).map (Value.int .i64))) (fun _ i _ => n' - (intOf i).toNat)
    case atStart => exact ⟨0, by omega, by first | rfl | go_num, Kept.refl _, World.ownsRow_nil _ _ _ _⟩
    case round =>
      obtain ⟨k, hk, rfl, hkr, hown⟩ := hrel
      have HOWN := Lib.hid hown
      have HKR := Lib.hid hkr
      have hrec := HREC.out.kept hkr
      have c0 := (R0.out.kept hkr 0 _ rfl).1
      have c1 := (R0.out.kept hkr 1 _ rfl).1
      have b0 := cell_lt c0
      have hz4 := hkr.size
      clear hown
      by_cases hlt2 : k < n'
      · obtain ⟨b, off, hA, htab⟩ := hrec.2.2.2 (by omega)
        subst hA
        have hxl : k < cs.length := by rw [HLEN.out]; exact hlt2
        obtain ⟨x, hx⟩ : ∃ x, cs[k]? = some x := ⟨cs[k]'hxl, List.getElem?_eq_getElem hxl⟩
        have HX := Lib.hid hx
        have HXT := Lib.hid (htab k x hx)
        obtain ⟨q0, q1, q2, q3, q4, q5⟩ := htab k x hx
        have qb := cell_lt q0
        have hft := HCS.out x (List.mem_of_getElem? hx)
        have hwlen : (wrL m d (shF sh (cs.take k))).length ≤ k := by
          have h1 := wrL_len m d (shF sh (cs.take k))
          have h2 := List.length_filter_le (fun x : Rcn => decide (x.sh = sh)) (cs.take k)
          unfold shF at h1 ⊢
          rw [List.length_take] at h2
          omega
        have HWL := Lib.hid hwlen
        clear htab hx hrec hwlen
        have hi0 : (0 : Int) ≤ (k : Int) := by omega
        have hi1 : (k : Int) < (n' : Int) := by omega
        obtain ⟨bd, hbd⟩ : ∃ bd, bd = bad m d x := ⟨_, rfl⟩
        rw [← hbd] at hft
        obtain ⟨fk, hfk⟩ : ∃ fk, fk = errI (fitOk m d x.tr x.nu) := ⟨_, rfl⟩
        have H17 : RowKit.Hid (∀ W, Calls Try.prog 17 #[.agg #[.int .i64 m, .int .i64 d], .int .i64 x.tr, .int .i64 x.nu] W fun e w' => e = .returned (.tuple #[.bool (!bd), .int .i64 fk]) ∧ Kept W w') := Lib.hid (fun W => by rw [← hft, hfk]; exact rfits_any m d x.tr x.nu W)
        have HBD := Lib.hid hbd
        clear hft hbd hfk
        have SB : RowKit.Hid (∀ W, Kept wr W → W.cell? ⟨w.heap.size, 0, none⟩ = some (.int .i64 m) ∧ W.cell? ⟨w.heap.size, 1, none⟩ = some (.int .i64 d) ∧ W.cell? ⟨b, off + k * 6, none⟩ = some (.int .i64 x.id) ∧ W.cell? ⟨b, off + k * 6 + 3, none⟩ = some (.int .i64 x.sh) ∧ W.cell? ⟨b, off + k * 6 + 4, none⟩ = some (.int .i64 x.tr) ∧ W.cell? ⟨b, off + k * 6 + 5, none⟩ = some (.int .i64 x.nu) ∧ Kept wr W) := Lib.hid (fun W hW => ⟨(hW.cells _ _ (cell_lt c0)).trans c0, (hW.cells _ _ (cell_lt c1)).trans c1, (hW.cells _ _ (cell_lt q0)).trans q0, (hW.cells _ _ (cell_lt q3)).trans q3, (hW.cells _ _ (cell_lt q4)).trans q4, (hW.cells _ _ (cell_lt q5)).trans q5, hW⟩)
        have SST : RowKit.Hid (∀ W W', (W.cell? ⟨w.heap.size, 0, none⟩ = some (.int .i64 m) ∧ W.cell? ⟨w.heap.size, 1, none⟩ = some (.int .i64 d) ∧ W.cell? ⟨b, off + k * 6, none⟩ = some (.int .i64 x.id) ∧ W.cell? ⟨b, off + k * 6 + 3, none⟩ = some (.int .i64 x.sh) ∧ W.cell? ⟨b, off + k * 6 + 4, none⟩ = some (.int .i64 x.tr) ∧ W.cell? ⟨b, off + k * 6 + 5, none⟩ = some (.int .i64 x.nu) ∧ Kept wr W) → Kept W W' → W'.cell? ⟨w.heap.size, 0, none⟩ = some (.int .i64 m) ∧ W'.cell? ⟨w.heap.size, 1, none⟩ = some (.int .i64 d) ∧ W'.cell? ⟨b, off + k * 6, none⟩ = some (.int .i64 x.id) ∧ W'.cell? ⟨b, off + k * 6 + 3, none⟩ = some (.int .i64 x.sh) ∧ W'.cell? ⟨b, off + k * 6 + 4, none⟩ = some (.int .i64 x.tr) ∧ W'.cell? ⟨b, off + k * 6 + 5, none⟩ = some (.int .i64 x.nu) ∧ Kept wr W') := Lib.hid (fun W W' h hk => SB.out W' (h.2.2.2.2.2.2.trans hk))
        go_upto_region 11 with (fail)
        have SB1 := Lib.hid (SB.out _ (Kept.refl wr).drew)
        clear q0 q1 q2 q3 q4 q5 c0 c1 hkr
        obtain ⟨c0, c1, q0, q3, q4, q5, -⟩ := SB.out _ (Kept.refl wr)
        go_region_held3 (fun W => W.cell? ⟨w.heap.size, 0, none⟩ = some (.int .i64 m) ∧ W.cell? ⟨w.heap.size, 1, none⟩ = some (.int .i64 d) ∧ W.cell? ⟨b, off + k * 6, none⟩ = some (.int .i64 x.id) ∧ W.cell? ⟨b, off + k * 6 + 3, none⟩ = some (.int .i64 x.sh) ∧ W.cell? ⟨b, off + k * 6 + 4, none⟩ = some (.int .i64 x.tr) ∧ W.cell? ⟨b, off + k * 6 + 5, none⟩ = some (.int .i64 x.nu) ∧ Kept wr W) (first | (with_reducible exact SB1.out) | (with_reducible assumption) | (with_reducible refine SST.out _ _ ?_ hkk; assumption) | fail) (first | fail | (go_at_call 17; refine (H17.out _).mono ?_; rintro e w5 ⟨rfl, hkk⟩))
        rename World => z
        clear c0 c1 q0 q3 q4 q5
        obtain ⟨-, -, q0, q3, -, -, hkz⟩ := ‹_ ∧ _›
        have HKZ := Lib.hid hkz
        have hzz := hkz.size
        have HOZ := Lib.hid (own_kept HOWN.out hkz)
        have qb := cell_lt q0
        clear SB SST SB1 H17 hkz
        by_cases hsh : x.sh = sh
        · have hsn : shF sh (cs.take (k + 1)) = shF sh (cs.take k) ++ [x] := filt_yes HX.out (by simpa using hsh)
          have hne : (x.sh == sh) = true := by simpa using hsh
          cases bd
          · have HSN : RowKit.Hid (wrL m d (shF sh (cs.take (k + 1))) = wrL m d (shF sh (cs.take k))) := Lib.hid (by rw [hsn, wrL_no HBD.out.symm])
            clear hsn hsh
            go_wp2
            go_roundw
            case rel => exact ⟨k + 1, by omega, by go_num, HKR.out.trans HKZ.out, by rw [HSN.out]; exact HOZ.out⟩
            case measure => simp [intOf]; omega
          · have HSN : RowKit.Hid (wrL m d (shF sh (cs.take (k + 1))) = wrL m d (shF sh (cs.take k)) ++ [x.id]) := Lib.hid (by rw [hsn, wrL_yes HBD.out.symm])
            clear hsn hsh
            have HN3 := Lib.hid (RowC.new z [.int .i64 x.id] 3)
            have HO3 := Lib.hid (own_kept HOZ.out ((Kept.refl z).alloc (.cells #[.int .i64 x.id] 3)))
            have HA1 : RowKit.Hid (∀ j u, ([.int .i64 x.id] : List Value)[j]? = some u → (z.alloc (.cells #[.int .i64 x.id] 3)).cell? ((⟨z.heap.size, 0, none⟩ : Addr).add j) = some u) := Lib.hid (fun j u hu => by
              have e : (⟨z.heap.size, 0, none⟩ : Addr).add j = ⟨z.heap.size, j, none⟩ := by simp [Addr.add]; try omega
              rw [e]
              exact (HN3.out j u hu).1)
            have HA2 : RowKit.Hid (∀ u ∈ ([.int .i64 x.id] : List Value), u.oneCell' = true) := Lib.hid (by intro u hu; simp at hu; subst hu; rfl)
            have HA3 : RowKit.Hid ((wrL m d (shF sh (cs.take k))).length + 1 ≤ maxLen) := Lib.hid (by have := HWL.out; unfold maxLen; omega)
            have HA4 : RowKit.Hid (((wrL m d (shF sh (cs.take k))).length + 1) * 8 ≤ 140737488355328) := Lib.hid (by have := HWL.out; omega)
            have HA5 : RowKit.Hid (w4.heap.size ≤ (z.alloc (.cells #[.int .i64 x.id] 3)).heap.size) := Lib.hid (by simp; omega)
            go_wp2_with (at_builtin; refine wpList_append_own _ rfl (.tmp 63) (.tmp 69) 48 rfl w4.heap.size 3 i0 (.int .i64 0) 1 8 Try.underlying48 hnf hz0 hz1 hz2 rfl (by decide) _ (wrL m d (shF sh (cs.take k))).length _ rfl HO3.out ⟨z.heap.size, 0, none⟩ 1 1 [.int .i64 x.id] rfl rfl HA1.out HA2.out HA3.out HA4.out HA5.out ?_; intro v' w6 hown' hgrow _; obtain ⟨g', cap', rfl⟩ := ownsRow_succ hown'; have HO4 := Lib.hid hown'; have HG4 := Lib.hid hgrow; clear hown' hgrow)
            go_roundw
            case rel =>
              refine ⟨k + 1, by omega, by first | rfl | go_num, ?_, ?_⟩
              · exact ((HKR.out.trans HKZ.out).trans ((Kept.refl _).alloc _)).grown HG4.out (fun j ej => own_row HO3.out j ej)
              · rw [HSN.out, List.map_append, List.length_append]
                simpa using HO4.out
            case measure => simp [intOf]; omega
        · have hsn : shF sh (cs.take (k + 1)) = shF sh (cs.take k) := filt_no HX.out (by simpa using hsh)
          have HSN := Lib.hid hsn
          have hne : (x.sh == sh) = false := by simpa using hsh
          clear hsn
          go_wp2
          go_roundw
          case rel => exact ⟨k + 1, by omega, by go_num, HKR.out.trans HKZ.out, by rw [HSN.out]; exact HOZ.out⟩
          case measure => simp [intOf]; omega
      · obtain rfl : k = n' := by omega
        have htk : cs.take k = cs := List.take_of_length_le (by rw [HLEN.out]; exact Nat.le_refl _)
        have hown := HOWN.out
        rw [htk] at hown
        obtain ⟨A2, c2, rfl, hia⟩ := own_out hown
        have HIA := Lib.hid hia
        clear hown hia htk hrec hkr c0 c1 b0
        go_wp2
        go_ret2
        exact ⟨_, _, _, (by rw [HR.out]; rfl), (by rw [HR.out]; exact HIA.out), K0.out.trans HKR.out⟩
  · have HS : RowKit.Hid (wrI m d xs sh known = ([], q)) := Lib.hid (by
      have h1 : chkI m d xs = q := by unfold chkI; rw [← HRB.out, HPQ.out]; rfl
      unfold wrI; rw [if_neg (by rw [h1]; exact hq), h1])
    have hqb : (q == 0) = false := by simpa using hq
    go_enter Try.func54, Try.ntmps54
    go_upto_region 1 with (fail)
    rw [← HW.out]
    go_wp2_with fail
    refine (H21.out _).mono ?_
    rintro e w1 ⟨rfl, hk1⟩
    go_wp2_with fail
    refine (H45.out _ (K0.out.trans hk1)).mono ?_
    rintro e w2 ⟨rfl, hk2⟩
    go_wp2
    go_ret2
    exact ⟨none, 0, 0, (by rw [HS.out]; rfl), (by rw [HS.out]; exact IntA.nil _), (K0.out.trans hk1).trans hk2⟩
end Go.Proofs.Ytjaicilnlgjdcaa
