/- the reference's Why: its walk -/
import Derived.Test.YtjaicilnlgjdcaaWe
namespace Go.Proofs.Ytjaicilnlgjdcaa
set_option linter.all false
open Go.RowKit Go.Shelf

theorem twoL_len (l : List Rcn) (a b : Int) : (twoL l a b).length ≤ l.length := by unfold twoL; rw [List.length_map]; exact List.length_filter_le _ _
theorem twoL_yes {cs : List Rcn} {k : Nat} {x : Rcn} {a b : Int} (h : cs[k]? = some x) (hp : x.id = a ∨ x.id = b) : twoL (cs.take (k + 1)) a b = twoL (cs.take k) a b ++ [x.id] := by
  unfold twoL
  rw [filt_yes h (by simpa using hp)]
  simp
theorem twoL_no {cs : List Rcn} {k : Nat} {x : Rcn} {a b : Int} (h : cs[k]? = some x) (hp : ¬ (x.id = a ∨ x.id = b)) : twoL (cs.take (k + 1)) a b = twoL (cs.take k) a b := by
  unfold twoL
  rw [filt_no h (by simpa using hp)]

set_option maxRecDepth 100000 in
set_option maxHeartbeats 4000000 in
theorem rwhy_any (m d sh known : Int) (A : Option Addr) (n c : Nat) (xs : List Rcn) (w : World) (hT : RcA w A n c xs) (hlt : n ≤ 1000000) :
    Calls Try.prog 52 #[.agg #[.int .i64 m, .int .i64 d], .slice A n c, .int .i64 sh, .int .i64 known] w (IdsRes w (whyI m d xs sh known).1 (whyI m d xs sh known).2) := by
  have HT := Lib.hid hT
  have hnc := hT.2.1
  have hcm := hT.2.2.1
  clear hT
  obtain ⟨i0, hnf, hz0, hz1, hz2⟩ := info_parts info3
  obtain ⟨W0, hW0⟩ : ∃ W0, W0 = w.alloc (.cells #[.int .i64 m, .int .i64 d] 23) := ⟨_, rfl⟩
  have K0 : RowKit.Hid (Kept w W0) := Lib.hid (by rw [hW0]; exact (Kept.refl _).alloc _)
  have r0 : RowC W0 w.heap.size [.int .i64 m, .int .i64 d] := by rw [hW0]; exact RowC.new w [.int .i64 m, .int .i64 d] 23
  have HW := Lib.hid hW0
  have R0 := Lib.hid r0
  have c0 := (r0 0 _ rfl).1
  have c1 := (r0 1 _ rfl).1
  have b0 := cell_lt c0
  clear hW0 r0
  obtain ⟨rm, rd, er, hre⟩ : ∃ rm rd er, rateI m d xs sh known = (rm, rd, er) := ⟨_, _, _, rfl⟩
  have H50 : RowKit.Hid (∀ W, Kept w W → Calls Try.prog 50 #[.agg #[.int .i64 m, .int .i64 d], .slice A n c, .int .i64 sh, .int .i64 known] W fun e w' => e = .returned (.tuple #[.agg #[.int .i64 rm, .int .i64 rd], .int .i64 er]) ∧ Kept W w') := Lib.hid (fun W hW => by have := rrateOf_any m d sh known A n c xs W (HT.out.kept hW) hlt; rwa [hre] at this)
  have HRE := Lib.hid hre
  clear hre
  by_cases her : er = 0
  · subst her
    have HS := Lib.hid (whyI_two HRE.out)
    go_enter Try.func52, Try.ntmps52
    go_upto_region 1 with (fail)
    rw [← HW.out]
    go_wp2_with fail
    refine (H50.out _ K0.out).mono ?_
    rintro e w2 ⟨rfl, hk2⟩
    obtain ⟨B, hB⟩ : ∃ B, B = w2.heap.size := ⟨_, rfl⟩
    obtain ⟨W3, hW3⟩ : ∃ W3, W3 = w2.alloc (.cells #[.int .i64 rm, .int .i64 rd] 23) := ⟨_, rfl⟩
    have k23 : Kept w2 W3 := by rw [hW3]; exact (Kept.refl _).alloc _
    have R2 : RowKit.Hid (RowC W3 B [.int .i64 rm, .int .i64 rd]) := Lib.hid (by rw [hW3, hB]; exact RowC.new w2 [.int .i64 rm, .int .i64 rd] 23)
    replace K0 := Lib.hid ((K0.out.trans hk2).trans k23)
    replace R0 := Lib.hid (R0.out.kept (hk2.trans k23))
    have HW3 := Lib.hid hW3
    have HBS := Lib.hid hB
    clear c0 c1 b0 hk2 k23 hW3 hB
    go_upto_region 4 with (fail)
    rw [← HW3.out, ← HBS.out]
    go_wp2_with fail
    refine (rcounting_any A n c xs known W3 (HT.out.kept K0.out) hlt).mono ?_
    rintro e w4 ⟨A', n', c', rfl, hrec, -, hk4⟩
    have hn' : n' ≤ 1000000 := by
      have h1 := cntS_len xs known
      have h2 := hrec.1
      have h3 := HT.out.1
      omega
    obtain ⟨cs, hcs⟩ : ∃ cs, cs = cntS xs known := ⟨_, rfl⟩
    rw [← hcs] at hrec HS
    have hnc' := hrec.2.1
    have hcm' := hrec.2.2.1
    have HLEN := Lib.hid hrec.1
    have HREC := Lib.hid hrec
    replace R0 := Lib.hid (R0.out.kept hk4)
    replace R2 := Lib.hid (R2.out.kept hk4)
    replace K0 := Lib.hid (K0.out.trans hk4)
    obtain ⟨fa, hfa⟩ : ∃ fa, fa = decide (m < rm) := ⟨_, rfl⟩
    obtain ⟨fb, hfb⟩ : ∃ fb, fb = decide (d < rd) := ⟨_, rfl⟩
    rw [← hfa, ← hfb] at HS
    have HFA := Lib.hid hfa
    have HFB := Lib.hid hfb
    clear hrec hk4 hcs hfa hfb HRE H50
    have hwn : IntKind.i64.wrap ((n' : Int) - 1) = (n' : Int) - 1 := IntWalk.i64_in _ (by omega)
    go_wp2_with fail
    go_loopw [13, 14, 15] (fun one two i wr => ∃ k : Nat, k ≤ n' ∧ i = .int .i64 ((k : Int) - 1) ∧ one = .int .i64 (firstId (pM sh fa rm) (cs.drop k)) ∧ two = .int .i64 (firstId (pD sh fb rd) (cs.drop k)) ∧ Kept w4 wr) (fun _ _ i _ => (intOf i + 1).toNat)
    case atStart => exact ⟨n', by omega, rfl, by rw [List.drop_eq_nil_of_le (by rw [HLEN.out]; exact Nat.le_refl _)]; rfl, by rw [List.drop_eq_nil_of_le (by rw [HLEN.out]; exact Nat.le_refl _)]; rfl, Kept.refl _⟩
    case round =>
      obtain ⟨k, hk, rfl, rfl, rfl, hkr⟩ := hrel
      rcases k with _ | j
      · -- the first loop is done
        obtain ⟨wa, rfl⟩ : ∃ wa, wa = wr := ⟨_, rfl⟩
        obtain ⟨one, hone⟩ : ∃ one, one = firstId (pM sh fa rm) cs := ⟨_, rfl⟩
        obtain ⟨two, htwo⟩ : ∃ two, two = firstId (pD sh fb rd) cs := ⟨_, rfl⟩
        rw [List.drop_zero, ← hone, ← htwo]
        rw [← hone, ← htwo] at HS
        have HKR := Lib.hid hkr
        have HREC1 := Lib.hid (HREC.out.kept hkr)
        clear hone htwo hkr
        go_wp2_with fail
        go_loopw [20, 21] (fun v i wy => ∃ k : Nat, k ≤ n' ∧ i = .int .i64 k ∧ Kept wa wy ∧ wy.ownsRow wa.heap.size 3 1 v (twoL (cs.take k) one two).length ((twoL (cs.take k) one two).map (Value.int .i64))) (fun _ i _ => n' - (intOf i).toNat)
        case atStart => exact ⟨0, by omega, by first | rfl | go_num, Kept.refl _, World.ownsRow_nil _ _ _ _⟩
        case round =>
          obtain ⟨k, hk, rfl, hky, hown⟩ := hrel
          have HOWN := Lib.hid hown
          have HKY := Lib.hid hky
          have hzy := hky.size
          have hrec := HREC1.out.kept hky
          clear hown
          by_cases hlt2 : k < n'
          · obtain ⟨b, off, hA, htab⟩ := hrec.2.2.2 (by omega)
            subst hA
            have hxl : k < cs.length := by rw [HLEN.out]; exact hlt2
            obtain ⟨x, hx⟩ : ∃ x, cs[k]? = some x := ⟨cs[k]'hxl, List.getElem?_eq_getElem hxl⟩
            have HX := Lib.hid hx
            obtain ⟨q0, q1, q2, q3, q4, q5⟩ := htab k x hx
            have qb := cell_lt q0
            have hwlen : (twoL (cs.take k) one two).length ≤ k := by
              have h1 := twoL_len (cs.take k) one two
              rw [List.length_take] at h1
              omega
            have HWL := Lib.hid hwlen
            clear htab hx hrec hwlen q1 q2 q3 q4 q5
            have hi0 : (0 : Int) ≤ (k : Int) := by omega
            have hi1 : (k : Int) < (n' : Int) := by omega
            have HN3 := Lib.hid (RowC.new wr [.int .i64 x.id] 3)
            have HO3 := Lib.hid (own_kept HOWN.out ((Kept.refl wr).alloc (.cells #[.int .i64 x.id] 3)))
            have HA1 : RowKit.Hid (∀ j u, ([.int .i64 x.id] : List Value)[j]? = some u → (wr.alloc (.cells #[.int .i64 x.id] 3)).cell? ((⟨wr.heap.size, 0, none⟩ : Addr).add j) = some u) := Lib.hid (fun j u hu => by
              have e : (⟨wr.heap.size, 0, none⟩ : Addr).add j = ⟨wr.heap.size, j, none⟩ := by simp [Addr.add]; try omega
              rw [e]
              exact (HN3.out j u hu).1)
            have HA2 : RowKit.Hid (∀ u ∈ ([.int .i64 x.id] : List Value), u.oneCell' = true) := Lib.hid (by intro u hu; simp at hu; subst hu; rfl)
            have HA3 : RowKit.Hid ((twoL (cs.take k) one two).length + 1 ≤ maxLen) := Lib.hid (by have := HWL.out; unfold maxLen; omega)
            have HA4 : RowKit.Hid (((twoL (cs.take k) one two).length + 1) * 8 ≤ 140737488355328) := Lib.hid (by have := HWL.out; omega)
            have HA5 : RowKit.Hid (wa.heap.size ≤ (wr.alloc (.cells #[.int .i64 x.id] 3)).heap.size) := Lib.hid (by simp; omega)
            rcases hb1 : (x.id == one) with _ | _
            · rcases hb2 : (x.id == two) with _ | _
              · have HSN := Lib.hid (twoL_no (a := one) (b := two) HX.out (by simp at hb1 hb2; omega))
                clear HA1 HA2 HA3 HA4 HA5 HO3 HN3
                go_wp2
                go_roundw
                case rel => exact ⟨k + 1, by omega, by go_num, HKY.out, by rw [HSN.out]; exact HOWN.out⟩
                case measure => simp [intOf]; omega
              · have HSN := Lib.hid (twoL_yes (a := one) (b := two) HX.out (by simp at hb1 hb2; omega))
                go_wp2_with (at_builtin; refine wpList_append_own _ rfl (.tmp 132) (.tmp 138) 48 rfl wa.heap.size 3 i0 (.int .i64 0) 1 8 Try.underlying48 hnf hz0 hz1 hz2 rfl (by decide) _ (twoL (cs.take k) one two).length _ rfl HO3.out ⟨wr.heap.size, 0, none⟩ 1 1 [.int .i64 x.id] rfl rfl HA1.out HA2.out HA3.out HA4.out HA5.out ?_; intro v' w6 hown' hgrow _; obtain ⟨g', cap', rfl⟩ := ownsRow_succ hown'; have HO4 := Lib.hid hown'; have HG4 := Lib.hid hgrow; clear hown' hgrow)
                go_roundw
                case rel =>
                  (repeat apply Exists.intro)
                  refine ⟨⟨k + 1, by omega, by first | rfl | go_num, ?_, ?_⟩, rfl⟩
                  · exact (HKY.out.trans ((Kept.refl _).alloc _)).grown HG4.out (fun j ej => own_row HO3.out j ej)
                  · rw [HSN.out, List.map_append, List.length_append]
                    simpa using HO4.out
                case measure => simp [intOf]; omega
            · have HSN := Lib.hid (twoL_yes (a := one) (b := two) HX.out (by simp at hb1; omega))
              go_wp2_with (at_builtin; refine wpList_append_own _ rfl (.tmp 132) (.tmp 138) 48 rfl wa.heap.size 3 i0 (.int .i64 0) 1 8 Try.underlying48 hnf hz0 hz1 hz2 rfl (by decide) _ (twoL (cs.take k) one two).length _ rfl HO3.out ⟨wr.heap.size, 0, none⟩ 1 1 [.int .i64 x.id] rfl rfl HA1.out HA2.out HA3.out HA4.out HA5.out ?_; intro v' w6 hown' hgrow _; obtain ⟨g', cap', rfl⟩ := ownsRow_succ hown'; have HO4 := Lib.hid hown'; have HG4 := Lib.hid hgrow; clear hown' hgrow)
              go_roundw
              case rel =>
                (repeat apply Exists.intro)
                refine ⟨⟨k + 1, by omega, by first | rfl | go_num, ?_, ?_⟩, rfl⟩
                · exact (HKY.out.trans ((Kept.refl _).alloc _)).grown HG4.out (fun j ej => own_row HO3.out j ej)
                · rw [HSN.out, List.map_append, List.length_append]
                  simpa using HO4.out
              case measure => simp [intOf]; omega
          · obtain rfl : k = n' := by omega
            have htk : cs.take k = cs := List.take_of_length_le (by rw [HLEN.out]; exact Nat.le_refl _)
            have hown := HOWN.out
            rw [htk] at hown
            obtain ⟨A2, c2, rfl, hia⟩ := own_out hown
            have HIA := Lib.hid hia
            clear hown hia htk hrec hky
            go_wp2
            go_ret2
            exact ⟨_, _, _, (by rw [HS.out]; rfl), (by rw [HS.out]; exact HIA.out), (K0.out.trans HKR.out).trans HKY.out⟩
      · obtain ⟨i1, hi1v⟩ : ∃ i1 : Int, i1 = ((j + 1 : Nat) : Int) - 1 := ⟨_, rfl⟩
        have hi1j : i1 = (j : Int) := by omega
        rw [← hi1v, hi1j]
        clear hi1v hi1j i1
        have HKR := Lib.hid hkr
        have hrec := HREC.out.kept hkr
        have c0 := (R0.out.kept hkr 0 _ rfl).1
        have c1 := (R0.out.kept hkr 1 _ rfl).1
        have e0 := (R2.out.kept hkr 0 _ rfl).1
        have e1 := (R2.out.kept hkr 1 _ rfl).1
        have b0 := cell_lt c0
        have b1 := cell_lt e0
        obtain ⟨b, off, hA, htab⟩ := hrec.2.2.2 (by omega)
        subst hA
        have hxl : j < cs.length := by rw [HLEN.out]; omega
        obtain ⟨x, hx⟩ : ∃ x, cs[j]? = some x := ⟨cs[j]'hxl, List.getElem?_eq_getElem hxl⟩
        have hdrop : cs.drop j = x :: cs.drop (j + 1) := drop_at hx
        obtain ⟨one, hone⟩ : ∃ one, one = firstId (pM sh fa rm) (cs.drop (j + 1)) := ⟨_, rfl⟩
        obtain ⟨two, htwo⟩ : ∃ two, two = firstId (pD sh fb rd) (cs.drop (j + 1)) := ⟨_, rfl⟩
        have HN1 : RowKit.Hid (firstId (pM sh fa rm) (cs.drop j) = if pM sh fa rm x = true then x.id else one) := Lib.hid (by rw [hdrop, hone]; rfl)
        have HN2 : RowKit.Hid (firstId (pD sh fb rd) (cs.drop j) = if pD sh fb rd x = true then x.id else two) := Lib.hid (by rw [hdrop, htwo]; rfl)
        rw [← hone, ← htwo]
        obtain ⟨q0, q1, q2, q3, q4, q5⟩ := htab j x hx
        have qb := cell_lt q0
        clear htab hx hrec hdrop hone htwo
        have hi0 : (0 : Int) ≤ (j : Int) := by omega
        have hi1 : (j : Int) < (n' : Int) := by omega
        have hwj : IntKind.i64.wrap ((j : Int) - 1) = (j : Int) - 1 := IntWalk.i64_in _ (by omega)
        by_cases hsh : x.sh = sh
        · have hne : (x.sh == sh) = true := by simpa using hsh
          have HSH := Lib.hid hsh
          clear hsh
          obtain ⟨am, ham⟩ : ∃ am, am = misI x.tr x.nu := ⟨_, rfl⟩
          obtain ⟨ad, had⟩ : ∃ ad, ad = douI x.tr x.nu := ⟨_, rfl⟩
          obtain ⟨bm, hbm⟩ : ∃ bm, bm = misB x.tr x.nu := ⟨_, rfl⟩
          obtain ⟨bd, hbd⟩ : ∃ bd, bd = douB x.tr x.nu := ⟨_, rfl⟩
          have H41 : RowKit.Hid (∀ W, Calls Try.prog 41 #[.int .i64 x.tr, .int .i64 x.nu] W fun e w' => e = .returned (.tuple #[.int .i64 am, .bool bm]) ∧ Kept W w') := Lib.hid (fun W => by rw [ham, hbm]; exact rmisses_any _ _ W)
          have H43 : RowKit.Hid (∀ W, Calls Try.prog 43 #[.int .i64 x.tr, .int .i64 x.nu] W fun e w' => e = .returned (.tuple #[.int .i64 ad, .bool bd]) ∧ Kept W w') := Lib.hid (fun W => by rw [had, hbd]; exact rdoubles_any _ _ W)
          obtain ⟨cm, hcm2⟩ : ∃ cm, cm = (fa && decide (am = rm)) := ⟨_, rfl⟩
          obtain ⟨cd, hcd2⟩ : ∃ cd, cd = (fb && decide (ad = rd)) := ⟨_, rfl⟩
          have HPM : RowKit.Hid (pM sh fa rm x = cm) := Lib.hid (by unfold pM askM; rw [← ham, HSH.out, hcm2]; simp)
          have HPD : RowKit.Hid (pD sh fb rd x = cd) := Lib.hid (by unfold pD askD; rw [← had, HSH.out, hcd2]; simp)
          have HCM := Lib.hid hcm2
          have HCD := Lib.hid hcd2
          clear ham had hbm hbd hcm2 hcd2
          have SB : RowKit.Hid (∀ W, Kept wr W → W.cell? ⟨b, off + j * 6, none⟩ = some (.int .i64 x.id) ∧ W.cell? ⟨b, off + j * 6 + 3, none⟩ = some (.int .i64 x.sh) ∧ W.cell? ⟨b, off + j * 6 + 4, none⟩ = some (.int .i64 x.tr) ∧ W.cell? ⟨b, off + j * 6 + 5, none⟩ = some (.int .i64 x.nu) ∧ Kept wr W) := Lib.hid (fun W hW => ⟨(hW.cells _ _ (cell_lt q0)).trans q0, (hW.cells _ _ (cell_lt q3)).trans q3, (hW.cells _ _ (cell_lt q4)).trans q4, (hW.cells _ _ (cell_lt q5)).trans q5, hW⟩)
          have SST : RowKit.Hid (∀ W W', (W.cell? ⟨b, off + j * 6, none⟩ = some (.int .i64 x.id) ∧ W.cell? ⟨b, off + j * 6 + 3, none⟩ = some (.int .i64 x.sh) ∧ W.cell? ⟨b, off + j * 6 + 4, none⟩ = some (.int .i64 x.tr) ∧ W.cell? ⟨b, off + j * 6 + 5, none⟩ = some (.int .i64 x.nu) ∧ Kept wr W) → Kept W W' → W'.cell? ⟨b, off + j * 6, none⟩ = some (.int .i64 x.id) ∧ W'.cell? ⟨b, off + j * 6 + 3, none⟩ = some (.int .i64 x.sh) ∧ W'.cell? ⟨b, off + j * 6 + 4, none⟩ = some (.int .i64 x.tr) ∧ W'.cell? ⟨b, off + j * 6 + 5, none⟩ = some (.int .i64 x.nu) ∧ Kept wr W') := Lib.hid (fun W W' h hk => SB.out W' (h.2.2.2.2.trans hk))
          go_upto_region 11 with (fail)
          have SB1 := Lib.hid (SB.out _ (Kept.refl wr).drew)
          go_region_held3 (fun W => W.cell? ⟨b, off + j * 6, none⟩ = some (.int .i64 x.id) ∧ W.cell? ⟨b, off + j * 6 + 3, none⟩ = some (.int .i64 x.sh) ∧ W.cell? ⟨b, off + j * 6 + 4, none⟩ = some (.int .i64 x.tr) ∧ W.cell? ⟨b, off + j * 6 + 5, none⟩ = some (.int .i64 x.nu) ∧ Kept wr W) (first | (with_reducible exact SB1.out) | (with_reducible assumption) | (with_reducible refine SST.out _ _ ?_ hkk; assumption) | fail) (first | fail | (go_at_call 41; refine (H41.out _).mono ?_; rintro e w5 ⟨rfl, hkk⟩))
          obtain ⟨q0, q3, q4, q5, hkz⟩ := ‹_ ∧ _›
          clear SB1
          go_upto_region 12 with (fail)
          have SB1 := Lib.hid (SB.out _ (hkz).drew)
          go_region_held3 (fun W => W.cell? ⟨b, off + j * 6, none⟩ = some (.int .i64 x.id) ∧ W.cell? ⟨b, off + j * 6 + 3, none⟩ = some (.int .i64 x.sh) ∧ W.cell? ⟨b, off + j * 6 + 4, none⟩ = some (.int .i64 x.tr) ∧ W.cell? ⟨b, off + j * 6 + 5, none⟩ = some (.int .i64 x.nu) ∧ Kept wr W) (first | (with_reducible exact SB1.out) | (with_reducible assumption) | (with_reducible refine SST.out _ _ ?_ hkk; assumption) | fail) (first | fail | (go_at_call 43; refine (H43.out _).mono ?_; rintro e w5 ⟨rfl, hkk⟩))
          rename World => z
          clear q0 q3 q4 q5
          obtain ⟨q0, q3, q4, q5, hkz⟩ := ‹_ ∧ _›
          clear SB1 SB SST H41 H43
          replace c0 := (hkz.cells _ _ (cell_lt c0)).trans c0
          replace c1 := (hkz.cells _ _ (cell_lt c1)).trans c1
          replace e0 := (hkz.cells _ _ (cell_lt e0)).trans e0
          replace e1 := (hkz.cells _ _ (cell_lt e1)).trans e1
          replace b0 := cell_lt c0
          replace b1 := cell_lt e0
          replace qb := cell_lt q0
          have HKZ := Lib.hid hkz
          clear hkz hkr
          go_upto_region 13 with (fail)
          go_cut [88] (fun s88 wx => s88 = .bool cm ∧ z = wx)
          case first =>
            by_cases h1 : m < rm
            · by_cases h2 : am = rm
              · have h3 : (am == rm) = true := by simpa using h2
                go_wp2
                go_meet
                exact ⟨by rw [HCM.out, HFA.out]; simp [h1, h2], rfl⟩
              · have h3 : (am == rm) = false := by simpa using h2
                go_wp2
                go_meet
                exact ⟨by rw [HCM.out, HFA.out]; simp [h1, h2], rfl⟩
            · go_wp2
              go_meet
              exact ⟨by rw [HCM.out, HFA.out, decide_eq_false (by omega)]; rfl, rfl⟩
          obtain ⟨rfl, rfl⟩ := hcut
          cases cm
          all_goals
            go_upto_region 15 with (fail)
            go_cut [104] (fun s104 wx => s104 = .bool cd ∧ z = wx)
            case first =>
              by_cases h1 : d < rd
              · by_cases h2 : ad = rd
                · have h3 : (ad == rd) = true := by simpa using h2
                  go_wp2
                  go_meet
                  exact ⟨by rw [HCD.out, HFB.out]; simp [h1, h2], rfl⟩
                · have h3 : (ad == rd) = false := by simpa using h2
                  go_wp2
                  go_meet
                  exact ⟨by rw [HCD.out, HFB.out]; simp [h1, h2], rfl⟩
              · go_wp2
                go_meet
                exact ⟨by rw [HCD.out, HFB.out, decide_eq_false (by omega)]; rfl, rfl⟩
            obtain ⟨rfl, rfl⟩ := hcut
            cases cd
            all_goals
              go_wp2
              go_roundw
              case rel =>
                exact ⟨j, by omega, rfl, by rw [HN1.out, HPM.out]; rfl, by rw [HN2.out, HPD.out]; rfl, HKR.out.trans HKZ.out⟩
              case measure => simp [intOf] <;> omega
        · have hne : (x.sh == sh) = false := by simpa using hsh
          have HN3 : RowKit.Hid (pM sh fa rm x = false ∧ pD sh fb rd x = false) := Lib.hid ⟨by unfold pM; simp [hsh], by unfold pD; simp [hsh]⟩
          clear hsh
          go_wp2
          go_roundw
          case rel =>
            exact ⟨j, by omega, rfl, by rw [HN1.out, HN3.out.1]; rfl, by rw [HN2.out, HN3.out.2]; rfl, HKR.out⟩
          case measure => simp [intOf] <;> omega
  · have HS : RowKit.Hid (whyI m d xs sh known = ([], er)) := Lib.hid (by unfold whyI; rw [HRE.out, if_neg her])
    have herb : (er == 0) = false := by simpa using her
    go_enter Try.func52, Try.ntmps52
    go_upto_region 1 with (fail)
    rw [← HW.out]
    go_wp2_with fail
    refine (H50.out _ K0.out).mono ?_
    rintro e w2 ⟨rfl, hk2⟩
    go_wp2
    go_ret2
    exact ⟨none, 0, 0, (by rw [HS.out]; rfl), (by rw [HS.out]; exact IntA.nil _), (K0.out.trans hk2).alloc _⟩
end Go.Proofs.Ytjaicilnlgjdcaa
