/- TallyLeast -/
import Derived.Test.YtjaicilnlgjdcaaVt
import Derived.Test.YtjaicilnlgjdcaaWa
import Derived.Test.YtjaicilnlgjdcaaUl
import Derived.Deep.DeepCutAuto
import Derived.BigQuiet
namespace Go.Proofs.Ytjaicilnlgjdcaa
set_option linter.all false
open Go.RowKit Go.Shelf

theorem rateI_err {m d sh known : Int} {xs : List Rcn} {rm rd er : Int} (h : rateI m d xs sh known = (rm, rd, er)) (he : er ≠ 0) : rm = 0 ∧ rd = 0 := by
  unfold rateI at h
  split at h
  · split at h
    · injection h with _ h2
      injection h2 with _ h3
      exact absurd h3.symm he
    · injection h with h1 h2
      injection h2 with h3 _
      exact ⟨h1.symm, h3.symm⟩
  · injection h with h1 h2
    injection h2 with h3 _
    exact ⟨h1.symm, h3.symm⟩
theorem pickS_snoc {xs : List Rcn} {k : Nat} {x : Rcn} (h : xs[k]? = some x) (ids : List Int) : pickS (xs.take (k + 1)) ids = pickS (xs.take k) ids ++ pickX x ids := by
  rw [take_snoc' h]; simp [pickS]
theorem pickX_snoc {ids : List Int} {j : Nat} {y : Int} (h : ids[j]? = some y) (x : Rcn) : pickX x (ids.take (j + 1)) = pickX x (ids.take j) ++ (if x.id = y then [x] else []) := by
  rw [take_snoc' h]
  unfold pickX
  by_cases hy : x.id = y <;> simp [hy]

set_option maxRecDepth 100000 in
set_option maxHeartbeats 4000000 in
theorem leastLaw_any (m d : Int) (A : Option Addr) (n c : Nat) (xs : List Rcn) (sh known : Int) (w : World) (hT : RcA w A n c xs) :
    Calls Try.prog 14 #[.agg #[.int .i64 m, .int .i64 d], .slice A n c, .int .i64 sh, .int .i64 known] w fun e w' => e = .returned (.bool true) ∧ Kept w w' := by
  have HT := Lib.hid hT
  have hnc := hT.2.1
  have hcm := hT.2.2.1
  clear hT
  obtain ⟨i0, hnf, hz0, hz1, hz2⟩ := info_parts info76
  obtain ⟨W0, hW0⟩ : ∃ W0, W0 = w.alloc (.cells #[.int .i64 m, .int .i64 d] 23) := ⟨_, rfl⟩
  have K0 : RowKit.Hid (Kept w W0) := Lib.hid (by rw [hW0]; exact (Kept.refl _).alloc _)
  have R0 : RowKit.Hid (RowC W0 w.heap.size [.int .i64 m, .int .i64 d]) := Lib.hid (by rw [hW0]; exact RowC.new w [.int .i64 m, .int .i64 d] 23)
  have HW := Lib.hid hW0
  clear hW0
  by_cases h30 : 30 < n
  · go_enter Try.func14, Try.ntmps14
    go_upto_region 1 with (fail)
    rw [← HW.out]
    go_wp2_with fail
    refine (counted_any _).mono ?_
    rintro e w1 ⟨rfl, hk⟩
    go_wp2
    go_ret
    exact ⟨rfl, K0.out.trans hk⟩
  have hlt : n ≤ 1000000 := by omega
  obtain ⟨rm, rd, er, hre⟩ : ∃ rm rd er, rateI m d xs sh known = (rm, rd, er) := ⟨_, _, _, rfl⟩
  have H49 : RowKit.Hid (∀ W, Kept w W → Calls Try.prog 49 #[.agg #[.int .i64 m, .int .i64 d], .slice A n c, .int .i64 sh, .int .i64 known] W fun e w' => e = .returned (.tuple #[.agg #[.int .i64 rm, .int .i64 rd], .int .i64 er]) ∧ Kept W w') := Lib.hid (fun W hW => by have := rateOf_any m d sh known A n c xs W (HT.out.kept hW) hlt; rwa [hre] at this)
  have HRE := Lib.hid hre
  clear hre
  have c0 := (R0.out 0 _ rfl).1
  have c1 := (R0.out 1 _ rfl).1
  have b0 := cell_lt c0
  go_enter Try.func14, Try.ntmps14
  go_upto_region 1 with (fail)
  rw [← HW.out]
  go_wp2_with fail
  refine (H49.out _ K0.out).mono ?_
  rintro e w1 ⟨rfl, hk1⟩
  obtain ⟨B, hB⟩ : ∃ B, B = w1.heap.size := ⟨_, rfl⟩
  obtain ⟨W1, hW1⟩ : ∃ W1, W1 = w1.alloc (.cells #[.int .i64 rm, .int .i64 rd] 23) := ⟨_, rfl⟩
  have k1 : Kept w1 W1 := by rw [hW1]; exact (Kept.refl _).alloc _
  have R1 : RowKit.Hid (RowC W1 B [.int .i64 rm, .int .i64 rd]) := Lib.hid (by rw [hW1, hB]; exact RowC.new w1 [.int .i64 rm, .int .i64 rd] 23)
  replace K0 := Lib.hid (K0.out.trans (hk1.trans k1))
  replace R0 := Lib.hid (R0.out.kept (hk1.trans k1))
  have HW1 := Lib.hid hW1
  have HBS := Lib.hid hB
  clear c0 c1 b0 hk1 k1 hW1 hB H49
  have c0 := (R0.out 0 _ rfl).1
  have c1 := (R0.out 1 _ rfl).1
  have e0 := (R1.out 0 _ rfl).1
  have e1 := (R1.out 1 _ rfl).1
  have b0 := cell_lt c0
  have b1 := cell_lt e0
  go_upto_region 4 with (fail)
  rw [← HW1.out, ← HBS.out]
  by_cases her : er = 0
  · subst her
    obtain ⟨f1, f2, f3, f4, ids, f5, f6, f7, f8, ⟨f9, f10⟩, f11, f12⟩ := least_facts HRE.out
    have H53 : RowKit.Hid (∀ W, Kept w W → Calls Try.prog 53 #[.agg #[.int .i64 rm, .int .i64 rd], .slice A n c, .int .i64 sh, .int .i64 known] W (IdsRes W [] 0)) := Lib.hid (fun W hW => by have := wrong_any rm rd sh known A n c xs W (HT.out.kept hW) hlt; rwa [f1] at this)
    have H55 : RowKit.Hid (∀ W, Calls Try.prog 55 #[.agg #[.int .i64 m, .int .i64 d], .agg #[.int .i64 rm, .int .i64 rd]] W fun e w' => e = .returned (.bool true) ∧ Kept W w') := Lib.hid (fun W => by have := narrower_any m d rm rd W; rwa [f2] at this)
    have H53m : RowKit.Hid (m < rm → ∀ W, Kept w W → Calls Try.prog 53 #[.agg #[.int .i64 (rm - 1), .int .i64 rd], .slice A n c, .int .i64 sh, .int .i64 known] W fun e w' => ∃ A' n' c', 0 < n' ∧ e = .returned (.tuple #[.slice A' n' c', .int .i64 0]) ∧ Kept W w') := Lib.hid (fun hm W hW => by
      obtain ⟨l, hl, hne⟩ := f3 hm
      have := wrong_any (rm - 1) rd sh known A n c xs W (HT.out.kept hW) hlt
      rw [hl] at this
      refine this.mono ?_
      rintro e w' ⟨A', n', c', h1, h2, h3⟩
      exact ⟨A', n', c', by rw [← h2.1]; exact List.length_pos_iff.2 hne, h1, h3⟩)
    have H53d : RowKit.Hid (d < rd → ∀ W, Kept w W → Calls Try.prog 53 #[.agg #[.int .i64 rm, .int .i64 (rd - 1)], .slice A n c, .int .i64 sh, .int .i64 known] W fun e w' => ∃ A' n' c', 0 < n' ∧ e = .returned (.tuple #[.slice A' n' c', .int .i64 0]) ∧ Kept W w') := Lib.hid (fun hm W hW => by
      obtain ⟨l, hl, hne⟩ := f4 hm
      have := wrong_any rm (rd - 1) sh known A n c xs W (HT.out.kept hW) hlt
      rw [hl] at this
      refine this.mono ?_
      rintro e w' ⟨A', n', c', h1, h2, h3⟩
      exact ⟨A', n', c', by rw [← h2.1]; exact List.length_pos_iff.2 hne, h1, h3⟩)
    have H51 : RowKit.Hid (∀ W, Kept w W → Calls Try.prog 51 #[.agg #[.int .i64 m, .int .i64 d], .slice A n c, .int .i64 sh, .int .i64 known] W (IdsRes W ids 0)) := Lib.hid (fun W hW => by have := why_any m d sh known A n c xs W (HT.out.kept hW) hlt; rwa [f5] at this)
    have HF6 := Lib.hid f6
    have HF7 := Lib.hid f7
    have HF8 := Lib.hid f8
    have hwm : IntKind.i64.wrap (rm - 1) = rm - 1 := IntWalk.i64_in _ (by omega)
    have hwd : IntKind.i64.wrap (rd - 1) = rd - 1 := IntWalk.i64_in _ (by omega)
    clear f1 f2 f3 f4 f5 f6 f7 f8 HRE
    go_wp2_with fail
    refine (H53.out _ K0.out).mono ?_
    rintro e w2 ⟨A2, n2, c2, rfl, hi2, hk2⟩
    obtain rfl : n2 = 0 := by rw [← hi2.1]; rfl
    replace K0 := Lib.hid (K0.out.trans hk2)
    replace R0 := Lib.hid (R0.out.kept hk2)
    replace R1 := Lib.hid (R1.out.kept hk2)
    clear c0 c1 e0 e1 b0 b1 hk2 hi2
    have c0 := (R0.out 0 _ rfl).1
    have c1 := (R0.out 1 _ rfl).1
    have e0 := (R1.out 0 _ rfl).1
    have e1 := (R1.out 1 _ rfl).1
    have b0 := cell_lt c0
    have b1 := cell_lt e0
    go_upto_region 9 with (go_at_call 55; refine (H55.out _).mono ?_; rintro e w3 ⟨rfl, hk3⟩)
    replace K0 := Lib.hid (K0.out.trans hk3)
    replace R0 := Lib.hid (R0.out.kept hk3)
    replace R1 := Lib.hid (R1.out.kept hk3)
    clear c0 c1 e0 e1 b0 b1 hk3
    have c0 := (R0.out 0 _ rfl).1
    have c1 := (R0.out 1 _ rfl).1
    have e0 := (R1.out 0 _ rfl).1
    have e1 := (R1.out 1 _ rfl).1
    have b0 := cell_lt c0
    have b1 := cell_lt e0
    go_upto_if 69 with (fail)
    go_cut [8] (fun s8 wx => s8 = .bool false ∧ Kept w3 wx)
    case first =>
      by_cases hm : m < rm
      · go_wp2_with fail
        refine (H53m.out hm _ K0.out).mono ?_
        rintro e w4 ⟨A3, n3, c3, hn3, rfl, hk4⟩
        have hz3 : ((n3 : Int) == 0) = false := by simp; omega
        go_wp2
        go_meet
        exact ⟨rfl, hk4⟩
      · go_wp2
        go_meet
        exact ⟨rfl, Kept.refl _⟩
    obtain ⟨rfl, k5⟩ := hcut
    obtain ⟨wd, rfl⟩ : ∃ wd, wd = wc := ⟨_, rfl⟩
    replace K0 := Lib.hid (K0.out.trans k5)
    replace R0 := Lib.hid (R0.out.kept k5)
    replace R1 := Lib.hid (R1.out.kept k5)
    clear c0 c1 e0 e1 b0 b1 k5
    have c0 := (R0.out 0 _ rfl).1
    have c1 := (R0.out 1 _ rfl).1
    have e0 := (R1.out 0 _ rfl).1
    have e1 := (R1.out 1 _ rfl).1
    have b0 := cell_lt c0
    have b1 := cell_lt e0
    go_upto_region 13 with (fail)
    go_upto_if 94 with (fail)
    go_cut [8] (fun s8 wx => s8 = .bool false ∧ Kept wd wx)
    case first =>
      by_cases hm : d < rd
      · go_wp2_with fail
        refine (H53d.out hm _ K0.out).mono ?_
        rintro e w4 ⟨A3, n3, c3, hn3, rfl, hk4⟩
        have hz3 : ((n3 : Int) == 0) = false := by simp; omega
        go_wp2
        go_meet
        exact ⟨rfl, hk4⟩
      · go_wp2
        go_meet
        exact ⟨rfl, Kept.refl _⟩
    obtain ⟨rfl, k5⟩ := hcut
    obtain ⟨we, rfl⟩ : ∃ we, we = wc := ⟨_, rfl⟩
    replace K0 := Lib.hid (K0.out.trans k5)
    replace R0 := Lib.hid (R0.out.kept k5)
    replace R1 := Lib.hid (R1.out.kept k5)
    clear c0 c1 e0 e1 b0 b1 k5
    have c0 := (R0.out 0 _ rfl).1
    have c1 := (R0.out 1 _ rfl).1
    have e0 := (R1.out 0 _ rfl).1
    have e1 := (R1.out 1 _ rfl).1
    have b0 := cell_lt c0
    have b1 := cell_lt e0
    go_upto_region 17 with (fail)
    go_wp2_with fail
    refine (H51.out _ K0.out).mono ?_
    rintro e w5 ⟨A5, n5, c5, rfl, hi5, hk5⟩
    have hn5 : n5 ≤ 2 := by rw [← hi5.1]; exact HF6.out
    have hnc5 := hi5.2.1
    have hcm5 := hi5.2.2.1
    have HI5 := Lib.hid hi5
    clear hi5
    replace K0 := Lib.hid (K0.out.trans hk5)
    replace R0 := Lib.hid (R0.out.kept hk5)
    replace R1 := Lib.hid (R1.out.kept hk5)
    clear c0 c1 e0 e1 b0 b1 hk5
    have c0 := (R0.out 0 _ rfl).1
    have c1 := (R0.out 1 _ rfl).1
    have e0 := (R1.out 0 _ rfl).1
    have e1 := (R1.out 1 _ rfl).1
    have b0 := cell_lt c0
    have b1 := cell_lt e0
    have HREC := Lib.hid (HT.out.kept K0.out)
    clear H53 H53m H53d H51 H55
    go_wp2_with fail
    go_loopw [19, 20] (fun v i wr => ∃ k : Nat, k ≤ n ∧ i = .int .i64 k ∧ Kept w5 wr ∧ wr.ownsRow w5.heap.size 76 6 v (pickS (xs.take k) ids).length ((pickS (xs.take k) ids).flatMap rcCells)) (fun _ i _ => n - (intOf i).toNat)
    case atStart => exact ⟨0, by omega, by first | rfl | go_num, Kept.refl _, World.ownsRow_nil _ _ _ _⟩
    case round =>
      obtain ⟨wa, rfl⟩ : ∃ wa, wa = wr := ⟨_, rfl⟩
      obtain ⟨k, hk, rfl, hkr, hown⟩ := hrel
      have HOWN := Lib.hid hown
      have HKR := Lib.hid hkr
      clear hown
      by_cases hlt2 : k < n
      · obtain ⟨b, off, hA, htab⟩ := HREC.out.2.2.2 (by omega)
        subst hA
        have hxl : k < xs.length := by rw [HT.out.1]; exact hlt2
        obtain ⟨x, hx⟩ : ∃ x, xs[k]? = some x := ⟨xs[k]'hxl, List.getElem?_eq_getElem hxl⟩
        have HX := Lib.hid hx
        have HAT := Lib.hid (htab k x hx)
        have hlen : (pickS (xs.take k) ids).length ≤ 60 := by
          have h1 := pickS_len (xs.take k) ids
          have h2 : (xs.take k).length ≤ 30 := by rw [List.length_take]; omega
          have h3 := Nat.mul_le_mul h2 HF6.out
          omega
        have HLEN := Lib.hid hlen
        clear htab hx hkr hlen c0 c1 e0 e1 b0 b1
        have hi0 : (0 : Int) ≤ (k : Int) := by omega
        have hi1 : (k : Int) < (n : Int) := by omega
        go_wp2_with fail
        go_loopw [19, 21] (fun v i wr => ∃ j : Nat, j ≤ n5 ∧ i = .int .i64 j ∧ Kept w5 wr ∧ wr.ownsRow w5.heap.size 76 6 v (pickS (xs.take k) ids ++ pickX x (ids.take j)).length ((pickS (xs.take k) ids ++ pickX x (ids.take j)).flatMap rcCells)) (fun _ i _ => n5 - (intOf i).toNat)
        case atStart => exact ⟨0, by omega, by first | rfl | go_num, HKR.out, by simpa [pickX] using HOWN.out⟩
        case round =>
          obtain ⟨j, hj, rfl, hkr, hown⟩ := hrel
          have HOW2 := Lib.hid hown
          have HKR2 := Lib.hid hkr
          clear hown
          by_cases hlt3 : j < n5
          · obtain ⟨b2, off2, hA2, hint⟩ := (HI5.out.kept hkr).2.2.2 (by omega)
            subst hA2
            have hyl : j < ids.length := by rw [HI5.out.1]; exact hlt3
            obtain ⟨y, hy⟩ : ∃ y, ids[j]? = some y := ⟨ids[j]'hyl, List.getElem?_eq_getElem hyl⟩
            have HY := Lib.hid hy
            have qy := hint j y hy
            have qyb := cell_lt qy
            obtain ⟨q0, q1, q2, q3, q4, q5⟩ := HAT.out.kept hkr
            have qb := cell_lt q0
            have hpl : (pickX x (ids.take j)).length ≤ 2 := by
              have h1 := pickX_len x (ids.take j)
              rw [List.length_take] at h1
              omega
            have HPL := Lib.hid hpl
            clear hint hy hkr hpl
            have hj0 : (0 : Int) ≤ (j : Int) := by omega
            have hj1 : (j : Int) < (n5 : Int) := by omega
            go_upto_region 25 with (fail)
            go_quiet (fail)
            replace q0 : (wr.drewN nq).cell? ⟨b, off + k * 6, none⟩ = some (.int .i64 x.id) := q0
            replace q1 : (wr.drewN nq).cell? ⟨b, off + k * 6 + 1, none⟩ = some (.int .i64 x.dy) := q1
            replace q2 : (wr.drewN nq).cell? ⟨b, off + k * 6 + 2, none⟩ = some (.int .i64 x.kn) := q2
            replace q3 : (wr.drewN nq).cell? ⟨b, off + k * 6 + 3, none⟩ = some (.int .i64 x.sh) := q3
            replace q4 : (wr.drewN nq).cell? ⟨b, off + k * 6 + 4, none⟩ = some (.int .i64 x.tr) := q4
            replace q5 : (wr.drewN nq).cell? ⟨b, off + k * 6 + 5, none⟩ = some (.int .i64 x.nu) := q5
            replace qb : b < (wr.drewN nq).heap.size := cell_lt q0
            obtain ⟨Z, hZ⟩ : ∃ Z, Z = wr.drewN nq := ⟨_, rfl⟩
            have kZ : Kept wr Z := by rw [hZ]; exact (Kept.refl _).drewN _
            have HKZ := Lib.hid kZ
            have hzz : w5.heap.size ≤ Z.heap.size := (HKR2.out.trans kZ).size
            have HOZ := Lib.hid (own_kept HOW2.out kZ)
            rw [← hZ] at q0 q1 q2 q3 q4 q5 qb ⊢
            clear hZ kZ qy qyb
            rcases hxy : (x.id == y) with _ | _
            · have HSN : RowKit.Hid (pickX x (ids.take (j + 1)) = pickX x (ids.take j)) := Lib.hid (by rw [pickX_snoc HY.out, if_neg (by simpa using hxy)]; simp)
              go_wp2
              go_roundw
              case rel => exact ⟨j + 1, by omega, by go_num, HKR2.out.trans HKZ.out, by rw [HSN.out]; exact HOZ.out⟩
              case measure => simp [intOf] <;> omega
            · have HSN : RowKit.Hid (pickX x (ids.take (j + 1)) = pickX x (ids.take j) ++ [x]) := Lib.hid (by rw [pickX_snoc HY.out, if_pos (by simpa using hxy)])
              have HN3 := Lib.hid (RowC.new Z (rcCells x) 76)
              have HO3 := Lib.hid (own_kept HOZ.out ((Kept.refl Z).alloc (.cells (rcCells x).toArray 76)))
              have HA1 : RowKit.Hid (∀ j u, (rcCells x)[j]? = some u → (Z.alloc (.cells (rcCells x).toArray 76)).cell? ((⟨Z.heap.size, 0, none⟩ : Addr).add j) = some u) := Lib.hid (fun j u hu => by
                have e : (⟨Z.heap.size, 0, none⟩ : Addr).add j = ⟨Z.heap.size, j, none⟩ := by simp [Addr.add]; try omega
                rw [e]
                exact (HN3.out j u hu).1)
              have HA2 : RowKit.Hid (∀ u ∈ rcCells x, u.oneCell' = true) := Lib.hid (rc_one x)
              have HA3 : RowKit.Hid ((pickS (xs.take k) ids ++ pickX x (ids.take j)).length + 1 ≤ maxLen) := Lib.hid (by have := HLEN.out; have := HPL.out; rw [List.length_append]; unfold maxLen; omega)
              have HA4 : RowKit.Hid (((pickS (xs.take k) ids ++ pickX x (ids.take j)).length + 1) * 48 ≤ 140737488355328) := Lib.hid (by have := HLEN.out; have := HPL.out; rw [List.length_append]; omega)
              have HA5 : RowKit.Hid (w5.heap.size ≤ (Z.alloc (.cells (rcCells x).toArray 76)).heap.size) := Lib.hid (by simp; omega)
              go_wp2_with (at_builtin; refine wpList_append_own _ rfl (.tmp 145) (.tmp 150) 56 rfl w5.heap.size 76 i0 (.agg #[.int .i64 0, .int .i64 0, .int .i64 0, .int .i64 0, .int .i64 0, .int .i64 0]) 6 48 Try.underlying56 hnf hz0 hz1 hz2 rfl (by decide) _ (pickS (xs.take k) ids ++ pickX x (ids.take j)).length _ rfl HO3.out ⟨Z.heap.size, 0, none⟩ 1 1 (rcCells x) rfl rfl HA1.out HA2.out HA3.out HA4.out HA5.out ?_; intro v' w7 hown' hgrow _; obtain ⟨g', cap', rfl⟩ := ownsRow_succ hown'; have HO4 := Lib.hid hown'; have HG4 := Lib.hid hgrow; clear hown' hgrow)
              go_roundw
              case rel =>
                refine ⟨j + 1, by omega, by first | rfl | go_num, ?_, ?_⟩
                · exact ((HKR2.out.trans HKZ.out).trans ((Kept.refl _).alloc _)).grown HG4.out (fun j ej => own_row HO3.out j ej)
                · rw [HSN.out, ← List.append_assoc, List.flatMap_append, List.length_append]
                  simpa using HO4.out
              case measure => simp [intOf] <;> omega
          · obtain rfl : j = n5 := by omega
            have htk : ids.take j = ids := List.take_of_length_le (by rw [HI5.out.1]; exact Nat.le_refl _)
            have HSN := Lib.hid (pickS_snoc HX.out ids)
            have HOW3 := Lib.hid (show wr.ownsRow w5.heap.size 76 6 _ (pickS (xs.take (k + 1)) ids).length ((pickS (xs.take (k + 1)) ids).flatMap rcCells) by rw [HSN.out]; have := HOW2.out; rwa [htk] at this)
            clear htk hkr
            go_wp2
            go_roundw
            case rel => exact ⟨k + 1, by omega, by go_num, HKR2.out, HOW3.out⟩
            case measure => simp [intOf] <;> omega
      · obtain rfl : k = n := by omega
        have htk : xs.take k = xs := List.take_of_length_le (by rw [HT.out.1]; exact Nat.le_refl _)
        have hown := HOWN.out
        rw [htk] at hown
        obtain ⟨A6, c6, rfl, hs6⟩ := own_outK rc_len (by decide) hown
        have h7 : (pickS xs ids).length = n5 := by rw [HF7.out, HI5.out.1]
        have H8 := Lib.hid (sli_recs hs6)
        rw [h7] at H8 ⊢
        replace K0 := Lib.hid (K0.out.trans hkr)
        replace R0 := Lib.hid (R0.out.kept hkr)
        replace R1 := Lib.hid (R1.out.kept hkr)
        have H49 : RowKit.Hid (Calls Try.prog 49 #[.agg #[.int .i64 m, .int .i64 d], .slice A6 n5 c6, .int .i64 sh, .int .i64 known] wa fun e w' => e = .returned (.tuple #[.agg #[.int .i64 rm, .int .i64 rd], .int .i64 0]) ∧ Kept wa w') := Lib.hid (by have := rateOf_any m d sh known A6 n5 c6 (pickS xs ids) wa H8.out (by omega); rwa [HF8.out] at this)
        clear hown hs6 h7 H8 htk hkr c0 c1 e0 e1 b0 b1
        have c0 := (R0.out 0 _ rfl).1
        have c1 := (R0.out 1 _ rfl).1
        have b0 := cell_lt c0
        go_wp2_with fail
        refine H49.out.mono ?_
        rintro e w8 ⟨rfl, hk8⟩
        replace K0 := Lib.hid (K0.out.trans hk8)
        replace R1 := Lib.hid (R1.out.kept hk8)
        clear c0 c1 b0 R0 hk8 H49
        obtain ⟨W9, hW9⟩ : ∃ W9, W9 = w8.alloc (.cells #[.int .i64 rm, .int .i64 rd] 23) := ⟨_, rfl⟩
        have k9 : Kept w8 W9 := by rw [hW9]; exact (Kept.refl _).alloc _
        have R9 : RowKit.Hid (RowC W9 w8.heap.size [.int .i64 rm, .int .i64 rd]) := Lib.hid (by rw [hW9]; exact RowC.new w8 [.int .i64 rm, .int .i64 rd] 23)
        replace K0 := Lib.hid (K0.out.trans k9)
        replace R1 := Lib.hid (R1.out.kept k9)
        have HW9 := Lib.hid hW9
        clear k9 hW9
        go_upto_region 28 with (fail)
        rw [← HW9.out]
        go_wp2_with fail
        refine (counted_any _).mono ?_
        rintro e w10 ⟨rfl, hk10⟩
        have x0 := (R9.out.kept hk10 0 _ rfl).1
        have x1 := (R9.out.kept hk10 1 _ rfl).1
        have e0 := (R1.out.kept hk10 0 _ rfl).1
        have e1 := (R1.out.kept hk10 1 _ rfl).1
        have hn52 : decide ((n5 : Int) ≤ 2) = true := decide_eq_true (by omega)
        go_wp2
        go_ret
        exact ⟨by simp, K0.out.trans hk10⟩
  · obtain ⟨rfl, rfl⟩ := rateI_err HRE.out her
    have herb : (er == 0) = false := by simpa using her
    go_wp2_with fail
    refine (counted_any _).mono ?_
    rintro e w2 ⟨rfl, hk2⟩
    have x0 := (R1.out.kept hk2 0 _ rfl).1
    have x1 := (R1.out.kept hk2 1 _ rfl).1
    go_wp2
    go_ret
    exact ⟨by simp, K0.out.trans hk2⟩
end Go.Proofs.Ytjaicilnlgjdcaa
