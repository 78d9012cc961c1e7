/-
  ShareFills.
-/
import Derived.Test.YtcjpecdnenemaaaGreatDoorUf3
import Derived.Test.YtcjpecdnenemaaaGreatDoorUs3
namespace Go.Proofs.YtcjpecdnenemaaaGreatDoor
set_option linter.all false
open Go.RowKit Go.Shelf

theorem heads_own {w : World} {base : Nat} {t : TypeId} {v : Value} {hs : List Hd} (h : w.ownsRow base t 2 v hs.length (hdFlat hs)) (hb : ∀ x ∈ hs, x.sort.size ≤ 9223372036854775807 ∧ -9223372036854775808 ≤ x.num ∧ x.num ≤ 9223372036854775807) : ∃ A c, v = .slice A hs.length c ∧ HeadsA w A hs.length c hs := by
  rcases own_form h with ⟨rfl, h0⟩ | ⟨g, c, rfl, h1, h2, h3, h4⟩
  · exact ⟨none, 0, by rw [h0], rfl, by omega, by omega, hb, fun hn => by omega⟩
  · refine ⟨some ⟨g, 0, none⟩, c, rfl, rfl, h1, by simpa [maxLen] using h2, hb, fun _ => ⟨g, 0, rfl, fun i x hx => ?_⟩⟩
    have hr := own_rowC h
    have := flH_at hs i x hx
    rw [Nat.zero_add]
    exact ⟨(hr _ _ this.1).1, (hr _ _ this.2).1⟩

set_option maxRecDepth 100000 in
set_option maxHeartbeats 8000000 in
theorem fills_any (A : Option Addr) (n c : Nat) (xs : List Eqv) (B : Option Addr) (hn hc : Nat) (hs : List Hd) (sn sd day known : Int) (w : World) (hT : TabA w A n c xs) (hH : HeadsA w B hn hc hs) (hE : Env w) :
    Calls Tryz.prog 16 #[.slice A n c, .slice B hn hc, .agg #[.int .i64 sn, .int .i64 sd], .int .i64 day, .int .i64 known] w fun e w' => e = .returned (.bool true) ∧ Kept w w' := by
  have hnc := hT.2.1
  have hcm := hT.2.2.1
  have hhc := hH.2.1
  have hhm := hH.2.2.1
  obtain ⟨W0, hW0⟩ : ∃ W0, W0 = w.alloc (.cells #[.int .i64 sn, .int .i64 sd] 23) := ⟨_, rfl⟩
  have K0 : RowKit.Hid (Kept w W0) := Lib.hid (by rw [hW0]; exact (Kept.refl _).alloc _)
  have R0 : RowKit.Hid (RowC W0 w.heap.size [.int .i64 sn, .int .i64 sd]) := Lib.hid (by rw [hW0]; exact RowC.new w _ 23)
  have HW0 := Lib.hid hW0
  have HT := Lib.hid (hT.kept K0.out)
  have HH := Lib.hid (hH.kept K0.out)
  have HE := Lib.hid (hE.kept K0.out)
  clear hT hH hE hW0
  obtain ⟨fb, hfb⟩ : ∃ fb, fb = fewB n := ⟨_, rfl⟩
  have HFB := Lib.hid hfb
  have HF : RowKit.Hid (∀ W, Calls Tryz.prog 47 #[.slice A n c] W fun e w' => e = .returned (.bool fb) ∧ W = w') := Lib.hid (fun W => by rw [hfb]; exact few_any A n c (by omega) W)
  clear hfb
  cases fb
  · go_enter Tryz.func16, Tryz.ntmps16
    go_upto_region 1 with (fail)
    rw [← HW0.out]
    go_wp2_with fail
    refine (HF.out _).mono ?_
    rintro e w1 ⟨rfl, rfl⟩
    go_wp2_with fail
    refine (alive_any _ HE.out).mono ?_
    rintro e w2 ⟨rfl, hk2⟩
    go_wp2
    go_ret
    exact ⟨rfl, K0.out.trans hk2⟩
  have hlt : n ≤ 1000000 := by have := few_le HFB.out.symm; omega
  obtain ⟨sb, hsb⟩ : ∃ sb, sb = shB hs := ⟨_, rfl⟩
  have HSB := Lib.hid hsb
  have HSH : RowKit.Hid (∀ W, Kept W0 W → Calls Tryz.prog 58 #[.slice B hn hc] W fun e w' => e = .returned (.bool sb) ∧ Kept W w') := Lib.hid (fun W hW => by rw [hsb]; exact short_any B hn hc hs W (HH.out.kept hW))
  clear hsb
  cases sb
  · go_enter Tryz.func16, Tryz.ntmps16
    go_upto_region 1 with (fail)
    rw [← HW0.out]
    go_wp2_with fail
    refine (HF.out _).mono ?_
    rintro e w1 ⟨rfl, rfl⟩
    go_wp2_with fail
    refine (HSH.out _ (Kept.refl _)).mono ?_
    rintro e w2 ⟨rfl, hk2⟩
    go_wp2_with fail
    refine (alive_any _ (HE.out.kept hk2)).mono ?_
    rintro e w3 ⟨rfl, hk3⟩
    go_wp2
    go_ret
    exact ⟨rfl, K0.out.trans (hk2.trans hk3)⟩
  obtain ⟨h15, hsz⟩ := shB_ok HSB.out.symm
  have HSZ := Lib.hid hsz
  rw [HH.out.1] at h15
  clear hsz
  obtain ⟨⟨out, z⟩, hx⟩ : ∃ r, r = fillR xs hs sn sd day known := ⟨_, rfl⟩
  have HX := Lib.hid hx.symm
  have HU : RowKit.Hid (∀ W, Kept W0 W → Calls Tryz.prog 63 #[.slice A n c, .slice B hn hc, .agg #[.int .i64 sn, .int .i64 sd], .int .i64 day, .int .i64 known] W fun e w' => ∃ v, e = .returned (.tuple #[v, .int .i64 z]) ∧ w'.ownsRow W.heap.size 84 2 v out.length (hdFlat out) ∧ Kept W w') := Lib.hid (fun W hW => by
    have := fill_any A n c xs B hn hc hs sn sd day known W (HT.out.kept hW) hlt (HH.out.kept hW)
    rw [← hx] at this
    exact this)
  clear hx
  by_cases hz : z = 0
  rotate_left
  · obtain rfl := fillR_bad HX.out hz
    have hzb : (z != 0) = true := by simpa using hz
    go_enter Tryz.func16, Tryz.ntmps16
    go_upto_region 1 with (fail)
    rw [← HW0.out]
    go_wp2_with fail
    refine (HF.out _).mono ?_
    rintro e w1 ⟨rfl, rfl⟩
    go_wp2_with fail
    refine (HSH.out _ (Kept.refl _)).mono ?_
    rintro e w2 ⟨rfl, hk2⟩
    have r0 := (R0.out.kept hk2 0 _ rfl).1
    have r1 := (R0.out.kept hk2 1 _ rfl).1
    have lr := cell_lt r0
    go_wp2_with fail
    refine (HU.out _ hk2).mono ?_
    rintro e w3 ⟨v, rfl, hown, hk3⟩
    have hv : v = .slice none 0 0 ∨ ∃ g c, v = .slice (some ⟨g, 0, none⟩) 0 c := by
      rcases own_form hown with ⟨e1, _⟩ | ⟨g, c, e1, _⟩
      · exact .inl e1
      · exact .inr ⟨g, c, e1⟩
    have K3 := Lib.hid (hk2.trans hk3)
    clear hk2 hk3 hown r0 r1 lr
    rcases hv with rfl | ⟨g, c9, rfl⟩
    all_goals
      go_wp2_with fail
      refine (alive_any _ (HE.out.kept K3.out)).mono ?_
      rintro e w4 ⟨rfl, hk4⟩
      go_wp2
      go_ret
      exact ⟨by first | rfl | (simp; done), K0.out.trans (K3.out.trans hk4)⟩
  subst hz
  obtain ⟨l, he0, hv, hok, _⟩ := fillR_ok HX.out
  obtain ⟨hol, heach⟩ := fill_each hok
  have hare := (areS_ok (each_ok he0).2.1).2
  have hob : ∀ x ∈ out, x.sort.size ≤ 9223372036854775807 ∧ -9223372036854775808 ≤ x.num ∧ x.num ≤ 9223372036854775807 := by
    intro x hx
    obtain ⟨i, hi⟩ := List.getElem?_of_mem hx
    have hil := (List.getElem?_eq_some_iff.1 hi).1
    have hxx : hs[i]? = some (hs[i]'(by omega)) := List.getElem?_eq_getElem (by omega)
    obtain ⟨s1, s2, s3, _⟩ := heach i _ x hxx hi
    have := hare _ (List.mem_of_getElem? hxx)
    have h9 := HSZ.out _ (List.mem_of_getElem? hxx)
    rw [s1]
    omega
  have hol2 : out.length = hn := by rw [hol, HH.out.1]
  have HEACH := Lib.hid heach
  have HARE := Lib.hid hare
  have HOB := Lib.hid hob
  have HOL := Lib.hid hol2
  have HV := Lib.hid hv
  have HOK := Lib.hid hok
  clear he0 hv hok hol heach hare hob hol2
  obtain ⟨⟨p0, p1, p2⟩, hp⟩ : ∃ r, r = excS xs out sn sd day known := ⟨_, rfl⟩
  have HP := Lib.hid hp.symm
  have HEX : RowKit.Hid (∀ W A' c', Kept W0 W → HeadsA W A' hn c' out → Calls Tryz.prog 61 #[.slice A n c, .slice A' hn c', .agg #[.int .i64 sn, .int .i64 sd], .int .i64 day, .int .i64 known] W fun e w' => e = .returned (.tuple #[.agg #[.int .i64 p0, .int .i64 p1], .int .i64 p2]) ∧ Kept W w') := Lib.hid (fun W A' c' hW hA => by
    have := excess_any A n c xs A' hn c' out sn sd day known W (HT.out.kept hW) hlt hA
    rw [← hp] at this
    exact this)
  clear hp
  obtain ⟨i1', hj0, hy0, hy1, hy2⟩ := info_parts info84
  go_enter Tryz.func16, Tryz.ntmps16
  go_upto_region 1 with (fail)
  rw [← HW0.out]
  go_wp2_with fail
  refine (HF.out _).mono ?_
  rintro e w1 ⟨rfl, rfl⟩
  go_wp2_with fail
  refine (HSH.out _ (Kept.refl _)).mono ?_
  rintro e w2 ⟨rfl, hk2⟩
  have r0 := (R0.out.kept hk2 0 _ rfl).1
  have r1 := (R0.out.kept hk2 1 _ rfl).1
  have lr := cell_lt r0
  go_wp2_with fail
  refine (HU.out _ hk2).mono ?_
  rintro e w3 ⟨v, rfl, hown, hk3⟩
  have hwown : W0.heap.size ≤ w2.heap.size := hk2.size
  obtain ⟨A3, c3, hv3, hh3⟩ := heads_own hown HOB.out
  rw [HOL.out] at hv3 hh3
  subst hv3
  have HH3 := Lib.hid hh3
  have hc3 := hh3.2.1
  have hm3 := hh3.2.2.1
  have K3 := Lib.hid (hk2.trans hk3)
  clear hown hh3 r0 r1 lr
  have rr3 := R0.out.kept K3.out
  have r0 := (rr3 0 _ rfl).1
  have r1 := (rr3 1 _ rfl).1
  have lr := cell_lt r0
  clear rr3 hk2 hk3 hwown
  have hnn : ((hn : Int) != (hn : Int)) = false := by simp
  go_wp2_with fail
  refine (HEX.out _ A3 c3 K3.out HH3.out).mono ?_
  rintro e w4 ⟨rfl, hk4⟩
  obtain ⟨W5, hW5⟩ : ∃ W5, W5 = w4.alloc (.cells #[.int .i64 p0, .int .i64 p1] 23) := ⟨_, rfl⟩
  have k5 : Kept w3 W5 := by rw [hW5]; exact hk4.alloc _
  have HH5 := Lib.hid (HH3.out.kept k5)
  have R5 : RowKit.Hid (RowC W5 w4.heap.size [.int .i64 p0, .int .i64 p1]) := Lib.hid (by rw [hW5]; exact RowC.new w4 _ 23)
  have K5 := Lib.hid (K3.out.trans k5)
  have HW5 := Lib.hid hW5
  clear hk4 hW5 k5 r0 r1 lr
  go_upto_region 9 with (fail)
  rw [← HW5.out]
  have rr5 := R0.out.kept K5.out
  have r0 := (rr5 0 _ rfl).1
  have r1 := (rr5 1 _ rfl).1
  have lr := cell_lt r0
  have b0 := (R5.out 0 _ rfl).1
  have b1 := (R5.out 1 _ rfl).1
  have lb := cell_lt b0
  clear rr5
  -- the test
  have HLOOP : RowKit.Hid (p2 = 0 → 0 ≤ sn → p0 ≤ 0) := Lib.hid (fun h1 h2 => by
    subst h1
    exact fill_fits HV.out HOK.out HP.out h2)
  have htest : ∀ (P : Prop), (p2 ≠ 0 → P) → (p2 = 0 → sn < 0 → P) → (p2 = 0 → 0 ≤ sn → p0 ≤ 0 → P) → P := fun P h1 h2 h3 => by
    by_cases e1 : p2 = 0
    · by_cases e2 : sn < 0
      · exact h2 e1 e2
      · exact h3 e1 (by omega) (HLOOP.out e1 (by omega))
    · exact h1 e1
  go_cut [71] (fun s71 wx => s71 = .bool false ∧ wx = W5)
  case first =>
    apply htest
    · intro h1
      have d1 : (p2 == 0) = false := by simpa using h1
      go_wp2
      go_meet
      exact ⟨rfl, rfl⟩
    · intro h1 h2
      have d1 : (p2 == 0) = true := by simpa using h1
      have d2 : decide (0 ≤ sn) = false := decide_eq_false (by omega)
      go_wp2
      go_meet
      exact ⟨rfl, rfl⟩
    · intro h1 h2 h3
      have d1 : (p2 == 0) = true := by simpa using h1
      have d2 : decide (0 ≤ sn) = true := decide_eq_true h2
      have d3 : decide (0 < p0) = false := decide_eq_false (by omega)
      go_wp2
      go_meet
      exact ⟨rfl, rfl⟩
  obtain ⟨rfl, hwc⟩ := hcut
  rw [hwc]
  clear hwc r0 r1 lr b0 b1 lb htest
  go_wp2_with fail
  go_loopw [74] (fun i wr => ∃ k : Nat, k ≤ hn ∧ i = .int .i64 k ∧ Kept W5 wr) (fun i _ => hn - (intOf i).toNat)
  case atStart => exact ⟨0, by omega, by first | rfl | go_num, Kept.refl _⟩
  case round =>
    obtain ⟨k, hk, rfl, hkr⟩ := hrel
    have HKR := Lib.hid hkr
    clear hkr
    by_cases hlt2 : k < hn
    · obtain ⟨b, off, hB, hcc⟩ := HH.out.2.2.2.2 (by omega)
      have hxl : k < hs.length := by rw [HH.out.1]; exact hlt2
      obtain ⟨hd, hhd⟩ : ∃ hd, hs[k]? = some hd := ⟨hs[k]'hxl, List.getElem?_eq_getElem hxl⟩
      have hol2 : k < out.length := by rw [HOL.out]; exact hlt2
      obtain ⟨o, ho⟩ : ∃ o, out[k]? = some o := ⟨out[k]'hol2, List.getElem?_eq_getElem hol2⟩
      obtain ⟨b3, off3, hB3, hcc3⟩ := HH5.out.2.2.2.2 (by omega)
      have kw := K5.out.trans HKR.out
      have q0 := (kw.cells _ _ (cell_lt (hcc k hd hhd).1)).trans (hcc k hd hhd).1
      have q1 := (kw.cells _ _ (cell_lt (hcc k hd hhd).2)).trans (hcc k hd hhd).2
      have u0 := (HKR.out.cells _ _ (cell_lt (hcc3 k o ho).1)).trans (hcc3 k o ho).1
      have u1 := (HKR.out.cells _ _ (cell_lt (hcc3 k o ho).2)).trans (hcc3 k o ho).2
      have HHN := Lib.hid (HH5.out.kept HKR.out)
      subst hB
      subst hB3
      obtain ⟨s1, s2, s3, _⟩ := HEACH.out k hd o hhd ho
      have hob := HOB.out o (List.mem_of_getElem? ho)
      have har := HARE.out hd (List.mem_of_getElem? hhd)
      have HHD := Lib.hid hhd
      have HO := Lib.hid ho
      have S1 := Lib.hid s1
      have S23 := Lib.hid (And.intro s2 s3)
      obtain ⟨Wh, hWh⟩ : ∃ Wh, Wh = wr.alloc (.cells #[.string hd.sort, .int .i64 hd.num] 84) := ⟨_, rfl⟩
      have kh : Kept wr Wh := by rw [hWh]; exact (Kept.refl _).alloc _
      have RHh : RowKit.Hid (RowC Wh wr.heap.size [.string hd.sort, .int .i64 hd.num]) := Lib.hid (by rw [hWh]; exact RowC.new wr _ 84)
      have KH := Lib.hid (HKR.out.trans kh)
      have c0 := (RHh.out 0 _ rfl).1
      have c1 := (RHh.out 1 _ rfl).1
      have lc := cell_lt c0
      have x0 := (kh.cells _ _ (cell_lt u0)).trans u0
      have x1 := (kh.cells _ _ (cell_lt u1)).trans u1
      have lx := cell_lt x0
      have HWh := Lib.hid hWh
      have HHW := Lib.hid (HHN.out.kept kh)
      have i0 : (0 : Int) ≤ (k : Int) := by omega
      have i1 : (k : Int) < (hn : Int) := by omega
      have it : (k : Int).toNat = k := by omega
      clear hcc hcc3 hhd ho kw u0 u1 hWh kh hol2
      go_upto_region 14 with (fail)
      rw [← HWh.out]
      clear q0 q1
      have hs1 : (o.sort.toList == hd.sort.toList) = true := by rw [S1.out]; simp
      have d1 : decide (o.num < 0) = false := decide_eq_false (by omega)
      have d2 : decide (hd.num < o.num) = false := decide_eq_false (by omega)
      have d3 : ¬ o.num < 0 := by omega
      have d4 : ¬ hd.num < o.num := by omega
      go_cut [104] (fun s104 wx => s104 = .bool false ∧ Kept Wh wx)
      case first =>
        go_quiet (fail)
        go_wp2
        go_meet
        exact ⟨by first | rfl | (simp; done) | (simp; omega), by first | exact Kept.refl _ | exact (Kept.refl _).drewN _ | exact (Kept.refl _).drew⟩
      obtain ⟨rfl, kx⟩ := hcut
      obtain ⟨w14, rfl⟩ : ∃ w14, w14 = wc := ⟨_, rfl⟩
      have KX := Lib.hid kx
      replace c0 := (kx.cells _ _ lc).trans c0
      replace c1 := (kx.cells _ _ lc).trans c1
      replace x0 := (kx.cells _ _ lx).trans x0
      replace x1 := (kx.cells _ _ lx).trans x1
      replace lc := cell_lt c0
      replace lx := cell_lt x0
      clear kx d1 d2 d3 d4 hs1
      go_upto_region 16 with (fail)
      by_cases heq : o.num = hd.num
      · have d5 : (o.num == hd.num) = true := by simp [heq]
        go_cut [112] (fun s112 wx => s112 = .bool true ∧ Kept w14 wx)
        case first =>
          go_quiet (fail)
          go_wp2
          go_meet
          exact ⟨by first | rfl | (simp; done) | (simp [heq]; done), by first | exact Kept.refl _ | exact (Kept.refl _).drewN _ | exact (Kept.refl _).drew⟩
        obtain ⟨rfl, kx2⟩ := hcut
        obtain ⟨w16, rfl⟩ : ∃ w16, w16 = wc := ⟨_, rfl⟩
        have KX2 := Lib.hid kx2
        clear kx2 c0 c1 x0 x1 lc lx d5 heq
        go_wp2
        go_roundw
        case rel => exact ⟨k + 1, by omega, by go_num, KH.out.trans (KX.out.trans KX2.out)⟩
        case measure => simp [intOf]; omega
      have d5 : (o.num == hd.num) = false := by simpa using heq
      go_cut [112] (fun s112 wx => s112 = .bool false ∧ Kept w14 wx)
      case first =>
        go_quiet (fail)
        go_wp2
        go_meet
        exact ⟨by first | rfl | (simp; done) | (simp [heq]; done), by first | exact Kept.refl _ | exact (Kept.refl _).drewN _ | exact (Kept.refl _).drew⟩
      obtain ⟨rfl, kx2⟩ := hcut
      obtain ⟨w16, rfl⟩ : ∃ w16, w16 = wc := ⟨_, rfl⟩
      have KX2 := Lib.hid (KH.out.trans (KX.out.trans kx2))
      have HLT : RowKit.Hid (o.num < hd.num) := Lib.hid (by have := S23.out; omega)
      have HH16 := Lib.hid (HHW.out.kept (KX.out.trans kx2))
      have KW16 := Lib.hid (K5.out.trans KX2.out)
      clear kx2 c0 c1 x0 x1 lc lx d5 heq
      have HNEW := Lib.hid (heads_news (HH16.out.kept ((Kept.refl w16).alloc (.cells #[] 84))) (by omega))
      have HONE := Lib.hid (flH_one out)
      have HOLN : RowKit.Hid ((flH out).length = hn * 2) := Lib.hid (by rw [flH_len, HOL.out])
      have HOWN0 := Lib.hid (ownH0 w16 w16.heap.size rfl)
      have HA3 : RowKit.Hid (0 + hn ≤ maxLen) := Lib.hid (by unfold maxLen; omega)
      have HA4 : RowKit.Hid ((0 + hn) * 24 ≤ 140737488355328) := Lib.hid (by omega)
      have HA5 : RowKit.Hid (0 < hn) := Lib.hid (by omega)
      have HZ : RowKit.Hid (w16.heap.size ≤ (w16.alloc (.cells #[] 84)).heap.size) := Lib.hid (by simp)
      go_upto_region 18 with (at_builtin; refine wpList_append_lies _ rfl (.tmp 113) (.tmp 114) 61 rfl w16.heap.size 84 i1' _ 2 24 Tryz.underlying61 hj0 hy0 hy1 hy2 rfl (by decide) _ 0 _ rfl HOWN0.out ⟨b3, off3, none⟩ hn c3 (flH out) rfl HOLN.out HNEW.out HONE.out HA5.out HA3.out HA4.out HZ.out _ rfl ?_; intro g cap w17 hown17 hgrow17 hat17 hlt17)
      have hk17 : Kept w16 w17 := ((Kept.refl w16).alloc (.cells #[] 84)).grown hgrow17 (fun r hr => (HOWN0.out.lt r hr).1)
      rw [Nat.zero_add, List.nil_append] at hown17
      have hr17 := own_rowC hown17
      have hgb : w16.heap.size ≤ g := by
        rcases hown17.2 with ⟨h1, _⟩ | ⟨g', c', cur, h1, hb, _⟩
        · cases h1
        · cases h1; exact hb
      obtain ⟨hcap1, hcap2⟩ : hn ≤ cap ∧ cap ≤ 9223372036854775807 := by
        rcases own_form hown17 with ⟨h1, _⟩ | ⟨g', c', h1, h2, h3, _⟩
        · cases h1
        · cases h1; exact ⟨h2, by simpa [maxLen] using h3⟩
      have hlt9 := HLT.out
      have hs23 := S23.out
      have HS' := Lib.hid (heads_set (n := o.num + 1) hr17 HO.out HOL.out hcap1 hcap2 HOB.out (by omega) (by omega))
      have t0 := (hr17 _ _ (flH_at out k o HO.out).2)
      have f0 := t0.1
      have f1 := t0.2
      have lg := cell_lt f0
      have hwr : IntKind.i64.wrap (o.num + 1) = o.num + 1 := IntWalk.i64_in _ (by omega)
      have KS : RowKit.Hid (Kept w16 (w17.setCell ⟨g, k * 2 + 1, none⟩ (.int .i64 (o.num + 1)))) := Lib.hid (hk17.setCell hgb _)
      obtain ⟨⟨a0, a1, a2⟩, hp2⟩ : ∃ r, r = excS xs (out.set k ⟨o.sort, o.num + 1⟩) sn sd day known := ⟨_, rfl⟩
      have HP2 := Lib.hid hp2.symm
      have HU2 : RowKit.Hid (Calls Tryz.prog 61 #[.slice A n c, .slice (some ⟨g, 0, none⟩) hn cap, .agg #[.int .i64 sn, .int .i64 sd], .int .i64 day, .int .i64 known] (w17.setCell ⟨g, k * 2 + 1, none⟩ (.int .i64 (o.num + 1))) fun e w' => e = .returned (.tuple #[.agg #[.int .i64 a0, .int .i64 a1], .int .i64 a2]) ∧ Kept (w17.setCell ⟨g, k * 2 + 1, none⟩ (.int .i64 (o.num + 1))) w') := Lib.hid (by
        have := excess_any A n c xs (some ⟨g, 0, none⟩) hn cap (out.set k ⟨o.sort, o.num + 1⟩) sn sd day known _ (HT.out.kept (KW16.out.trans KS.out)) hlt HS'.out
        rw [← hp2] at this
        exact this)
      have HMOST : RowKit.Hid (a2 = 0 → 0 < a0) := Lib.hid (fun h => by
        subst h
        exact fill_most HV.out HOK.out HHD.out HO.out HLT.out HP2.out)
      clear hp2 hown17 hgrow17 hat17 hlt17 hr17 t0 hlt9 hs23
      go_upto_region 19 with (fail)
      have rr := R0.out.kept (KW16.out.trans KS.out)
      have r0 := (rr 0 _ rfl).1
      have r1 := (rr 1 _ rfl).1
      have lr := cell_lt r0
      clear rr f0 f1 lg
      go_wp2_with fail
      refine HU2.out.mono ?_
      rintro e w18 ⟨rfl, hk18⟩
      obtain ⟨W19, hW19⟩ : ∃ W19, W19 = w18.alloc (.cells #[.int .i64 a0, .int .i64 a1] 23) := ⟨_, rfl⟩
      have k19 : Kept w16 W19 := by rw [hW19]; exact (KS.out.trans hk18).alloc _
      have r19 : RowC W19 w18.heap.size [.int .i64 a0, .int .i64 a1] := by rw [hW19]; exact RowC.new w18 _ 23
      have K19 := Lib.hid k19
      have HW19 := Lib.hid hW19
      have e0 := (r19 0 _ rfl).1
      have e1 := (r19 1 _ rfl).1
      have le := cell_lt e0
      clear hW19 k19 hk18 r19 r0 r1 lr
      go_upto_region 20 with (fail)
      rw [← HW19.out]
      by_cases ha2 : a2 = 0
      · have hpos := HMOST.out ha2
        have d6 : (a2 == 0) = true := by simpa using ha2
        have d7 : decide (a0 ≤ 0) = false := decide_eq_false (by omega)
        clear hpos ha2
        go_wp2
        go_roundw
        case rel => exact ⟨k + 1, by omega, by go_num, KX2.out.trans K19.out⟩
        case measure => simp [intOf]; omega
      · have d6 : (a2 == 0) = false := by simpa using ha2
        clear ha2
        go_wp2
        go_roundw
        case rel => exact ⟨k + 1, by omega, by go_num, KX2.out.trans K19.out⟩
        case measure => simp [intOf]; omega
    · obtain rfl : k = hn := by omega
      go_wp2_with fail
      refine (alive_any _ (HE.out.kept (K5.out.trans HKR.out))).mono ?_
      rintro e w9 ⟨rfl, hk9⟩
      go_wp2
      go_ret
      exact ⟨rfl, K0.out.trans ((K5.out.trans HKR.out).trans hk9)⟩
end Go.Proofs.YtcjpecdnenemaaaGreatDoor
