/-
  Fill: the walk of the calculation.
  Fill: where all is in range.
-/
import Derived.Test.YtcjpecdnenemaaaGreatDoorGO
namespace Go.Proofs.YtcjpecdnenemaaaGreatDoor
set_option linter.all false
open Go.RowKit Go.Shelf

/-- what the calculation leaves in memory -/
def FillPost (bf : Nat) (out : List Hd) (w w' : World) : Prop := ∃ v, But bf w w' ∧ RowC w' bf [v] ∧ w'.ownsRow w.heap.size 84 2 v out.length (hdFlat out)
set_option maxRecDepth 100000 in
set_option maxHeartbeats 6400000 in
theorem fill1_ok (bs bh be bf : Nat) (B : Option Addr) (hn hc : Nat) (hs : List Hd) (v : Value) (es : List (Int × Int)) (sn sd x y : Int) (out : List Hd) (w : World) (hB : w.cell? ⟨bh, 0, none⟩ = some (.slice B hn hc)) (hH : HeadsA w B hn hc hs) (hE : RowC w be [v]) (hF : FrA w v es) (hlen : es.length = hs.length)
    (hS : RowC w bs [.int .i64 sn, .int .i64 sd]) (hbf : RowC w bf [.slice none 0 0]) (hsv : vld sn sd = true) (hev : ∀ p ∈ es, vld p.1 p.2 = true ∧ 0 < p.1) (hnv : ∀ h ∈ hs, 0 ≤ h.num ∧ h.num ≤ 100000) (h12 : hn ≤ 12)
    (n1 : bs ≠ bf) (n2 : bh ≠ bf) (n3 : be ≠ bf) (n4 : ∀ b off, B = some ⟨b, off, none⟩ → b ≠ bf) (n5 : ∀ A c, v = .slice A es.length c → ∀ g, A = some ⟨g, 0, none⟩ → g ≠ bf)
    (hr : fillS (sn, sd) (es.zip hs) = some ((x, y), out)) :
    Calls Tryz.prog 129 #[.pointer (some ⟨bs, 0, none⟩), .pointer (some ⟨bh, 0, none⟩), .pointer (some ⟨be, 0, none⟩), .pointer (some ⟨bf, 0, none⟩)] w fun e w' => e = .returned (.agg #[.int .i64 x, .int .i64 y]) ∧ FillPost bf out w w' := by
  obtain ⟨i0, hi0, hz0, hz1, hz2⟩ := info_parts info84
  obtain ⟨A, c, rfl, hac, hcm, hfc⟩ := hF
  have HB := Lib.hid hB
  have HH := Lib.hid hH
  have HE := Lib.hid hE
  have HF := Lib.hid hfc
  have HLn := Lib.hid hlen
  have HS := Lib.hid hS
  have HBf := Lib.hid hbf
  have HR := Lib.hid hr
  have HSV := Lib.hid hsv
  have HEV := Lib.hid hev
  have HNV := Lib.hid hnv
  have N4 := Lib.hid n4
  have N5 := Lib.hid n5
  have lh := cell_lt hB
  have le := cell_lt (hE 0 _ rfl).1
  have ls := cell_lt (hS 0 _ rfl).1
  have lf := cell_lt (hbf 0 _ rfl).1
  have s0 := (hS 0 _ rfl).1
  have s1 := (hS 1 _ rfl).1
  have hnc := hH.2.1
  have hcm2 := hH.2.2.1
  have R4 := (RowC.new w [.int .i64 0, .int .i64 0] 92).kept ((Kept.refl _).alloc (.cells #[.int .i64 sn, .int .i64 sd] 92))
  have R5 := RowC.new (w.alloc (.cells #[.int .i64 0, .int .i64 0] 92)) [.int .i64 sn, .int .i64 sd] 92
  rw [World.size_alloc] at R5
  have H4 := Lib.hid R4
  have H5 := Lib.hid R5
  clear hH hE hfc hlen hS hbf hr hsv hev hnv n4 n5 R4 R5
  go_enter Tryz.func129, Tryz.ntmps129
  go_wp2
  clear s0 s1 hB
  go_loopw [12] (fun i wr => ∃ (k : Nat) (a b : Int) (fo : List Hd) (vv : Value), k ≤ hn ∧ i = .int .i64 k ∧ fillS (sn, sd) ((es.zip hs).take k) = some ((a, b), fo) ∧ fo.length = k ∧ RowC wr (w.heap.size + 1) [.int .i64 a, .int .i64 b] ∧ RowC wr w.heap.size [.int .i64 0, .int .i64 0] ∧ RowC wr bf [vv] ∧ wr.ownsRow (w.heap.size + 1 + 1) 84 2 vv k (hdFlat fo) ∧ But bf w wr ∧ w.heap.size + 1 < wr.heap.size) (fun i _ => hn - (intOf i).toNat)
  case atStart => exact ⟨0, sn, sd, [], .slice none 0 0, by omega, by first | rfl | go_num, rfl, rfl, H5.out, H4.out, (HBf.out.kept ((Kept.refl _).alloc _)).kept ((Kept.refl _).alloc _), by exact ⟨rfl, .inl ⟨rfl, rfl⟩⟩, But.of_kept (((Kept.refl _).alloc _).alloc _), by simp⟩
  case round =>
    obtain ⟨k, a, b, fo, vv, hk, rfl, hu, hfo, hr5, hr4, hrf, hown, hbt, hzr⟩ := hrel
    have HUk := Lib.hid hu
    have HFo := Lib.hid hfo
    have H5 := Lib.hid hr5
    have H4 := Lib.hid hr4
    have HRf := Lib.hid hrf
    have HO := Lib.hid hown
    have HBt := Lib.hid hbt
    clear hu hfo hr5 hr4 hrf hown
    have q1 := hbt.cell (HE.out 0 _ rfl).1 n3
    have hler : be < wr.heap.size := by have := hbt.size; omega
    by_cases hlt : k < hn
    · obtain ⟨bb, off, hB, hcc⟩ := HH.out.2.2.2.2 (by omega)
      have nbb := N4.out bb off hB
      subst hB
      have hxl : k < hs.length := by rw [HH.out.1]; exact hlt
      obtain ⟨hd, hhd⟩ : ∃ hd, hs[k]? = some hd := ⟨hs[k]'hxl, List.getElem?_eq_getElem hxl⟩
      obtain ⟨p, hp⟩ : ∃ p, es[k]? = some p := ⟨_, List.getElem?_eq_getElem (by rw [HLn.out]; exact hxl)⟩
      obtain ⟨g, hA, hfl⟩ := HF.out (by rw [HLn.out]; omega)
      have ng := N5.out A c rfl g hA
      subst hA
      have v0 := hbt.cell (hfl _ _ (fl2_at hp).1) ng
      have v1 := hbt.cell (hfl _ _ (fl2_at hp).2) ng
      have q0 := hbt.cell (hcc k hd hhd).1 nbb
      have q2 := hbt.cell (hcc k hd hhd).2 nbb
      have hpv : Bd p.1 p.2 := vld_bd (HEV.out p (List.mem_of_getElem? hp)).1
      have hp0 := (HEV.out p (List.mem_of_getElem? hp)).2
      obtain ⟨n0, n1'⟩ := HNV.out hd (List.mem_of_getElem? hhd)
      have hzip : (es.zip hs)[k]? = some (p, hd) := by
        rw [List.getElem?_zip_eq_some]
        exact ⟨hp, hhd⟩
      obtain ⟨r2, hr2⟩ := fillS_take HR.out (k + 1)
      have hst : stepF (some ((a, b), fo)) (p, hd) = some r2 := by rw [← hr2, take_snoc' hzip, fillS_snoc, HUk.out]
      obtain ⟨m, hm, hadd, hout⟩ := stepF_some hst
      dsimp only at hm hadd hout
      have hmv : Bd m.1 m.2 := vld_bd (mulF_vld hm)
      have hav : Bd a b := vld_bd (fillS_vld _ ((sn, sd), []) ((a, b), fo) HSV.out HUk.out)
      have hfb := fitS_bd a b p.1 p.2 (by have := hpv.1.1; omega) (Int.mul_nonneg (by have := hav.1.1; omega) (by omega))
      have TF : RowKit.Hid (∀ W, Calls Tryz.prog 130 #[.agg #[.int .i64 a, .int .i64 b], .agg #[.int .i64 p.1, .int .i64 p.2]] W fun e w' => e = .returned (.int .i64 (fitS a b p.1 p.2)) ∧ Kept W w') := Lib.hid (fun W => fitting_any a b p.1 p.2 hav hpv hp0 W)
      obtain ⟨ft, hft⟩ : ∃ ft, fitS a b p.1 p.2 = ft := ⟨_, rfl⟩
      rw [hft] at TF hm hout hfb
      obtain ⟨nn, hnn⟩ : ∃ nn, min hd.num ft = nn := ⟨_, rfl⟩
      rw [hnn] at hm hout
      have hn0 : 0 ≤ nn := by rw [← hnn]; omega
      have hn1 : nn ≤ 100000 := by rw [← hnn]; omega
      have HNN := Lib.hid hnn
      have HR2 := Lib.hid hr2
      have HOut := Lib.hid hout
      have T1 : RowKit.Hid (∀ W, Calls Tryz.prog 96 #[.agg #[.int .i64 p.1, .int .i64 p.2], .agg #[.int .i64 nn, .int .i64 1]] W fun e w' => e = .returned (.agg #[.int .i64 m.1, .int .i64 m.2]) ∧ Kept W w') := Lib.hid (fun W => times_some _ _ _ _ _ _ hpv ⟨by omega, by omega⟩ hm W)
      have T2 : RowKit.Hid (∀ W, Calls Tryz.prog 95 #[.agg #[.int .i64 a, .int .i64 b], .agg #[.int .i64 m.1, .int .i64 m.2]] W fun e w' => e = .returned (.agg #[.int .i64 r2.1.1, .int .i64 r2.1.2]) ∧ Kept W w') := Lib.hid (fun W => minus_some _ _ _ _ _ _ hav hmv hadd W)
      clear hfl hcc hhd hp hpv hzip hr2 hst hm hadd hmv hav hfb hft hnn hout hp0
      obtain ⟨Wh, hWh⟩ : ∃ Wh : World, Wh = wr.alloc (.cells #[.string hd.sort, .int .i64 hd.num] 84) := ⟨_, rfl⟩
      have kh : Kept wr Wh := by rw [hWh]; exact (Kept.refl _).alloc _
      have s1 := (kh.cells _ _ hler).trans q1
      have s2 := (kh.cells _ _ (cell_lt v0)).trans v0
      have s3 := (kh.cells _ _ (cell_lt v1)).trans v1
      have rh : RowC Wh wr.heap.size [.string hd.sort, .int .i64 hd.num] := by rw [hWh]; exact RowC.new wr [.string hd.sort, .int .i64 hd.num] 84
      have S1 := Lib.hid s1
      have S2 := Lib.hid s2
      have S3 := Lib.hid s3
      have RH := Lib.hid rh
      have HWh := Lib.hid hWh
      have KH := Lib.hid kh
      have H5h := Lib.hid (H5.out.kept kh)
      clear s1 s2 s3 rh hWh kh v0 v1
      have i0' : (0 : Int) ≤ (k : Int) := by omega
      have i1 : (k : Int) < (es.length : Int) := by have := HLn.out; omega
      have it : (k : Int).toNat = k := by omega
      go_wp2_with fail
      rw [← HWh.out]
      go_region_held3 (fun w' => w'.cell? ⟨be, 0, none⟩ = some (.slice (some ⟨g, 0, none⟩) es.length c) ∧ w'.cell? ⟨g, k * 2, none⟩ = some (.int .i64 p.1) ∧ w'.cell? ⟨g, k * 2 + 1, none⟩ = some (.int .i64 p.2) ∧ w'.cell? ⟨wr.heap.size, 1, none⟩ = some (.int .i64 hd.num) ∧ w'.cell? ⟨w.heap.size + 1, 0, none⟩ = some (.int .i64 a) ∧ w'.cell? ⟨w.heap.size + 1, 1, none⟩ = some (.int .i64 b) ∧ Kept Wh w')
        (first
          | exact S5_of S1.out S2.out S3.out (RH.out 1 _ rfl).1 H5h.out ((Kept.refl _).drew)
          | exact S5_of S1.out S2.out S3.out (RH.out 1 _ rfl).1 H5h.out (((Kept.refl _).drew).trans hka)
          | fail)
        (first
          | (go_at_call 130; refine (TF.out _).mono ?_; rintro e wa ⟨rfl, hka⟩)
          | fail)
      rw [HNN.out]
      have ka : Kept Wh wa := ((Kept.refl _).drew).trans hka
      have kwa := KH.out.trans ka
      have rha := RH.out.kept ka
      have x0 := (rha 0 _ rfl).1
      have x1 := (rha 1 _ rfl).1
      have rfa := HRf.out.kept kwa
      have y0 := (rfa 0 _ rfl).1
      have y1 := (rfa 0 _ rfl).2
      have lfa := cell_lt y0
      have lx := cell_lt x0
      have hoa := own_kept HO.out kwa
      have hza := kwa.size
      have HOa := Lib.hid hoa
      have HRfa := Lib.hid rfa
      have HKwa := Lib.hid kwa
      have HKa := Lib.hid ka
      have HN := Lib.hid (news_of (W := wa) (cs := hdCells ⟨hd.sort, nn⟩) (t := 84) (m := wa.heap.size) rfl)
      have H1 := Lib.hid (one2h ⟨hd.sort, nn⟩)
      have ABt := Lib.hid (HBt.out.trans (But.of_kept kwa))
      have h5a := Lib.hid (H5.out.kept kwa)
      have h4a := Lib.hid (H4.out.kept kwa)
      have hnb : ∀ r, vv.ownBlock = some r → w.heap.size + 1 < r := fun r hr => by have := (HO.out.lt r hr).1; omega
      have HNb := Lib.hid hnb
      clear hoa rfa kwa ka rha hnb
      go_wp2_with (at_builtin; refine wpList_append_own _ rfl (.tmp 26) (.tmp 31) 61 rfl (w.heap.size + 1 + 1) 84 i0 _ 2 24 Tryz.underlying61 hi0 hz0 hz1 hz2 rfl (by decide) _ k (hdFlat fo) rfl (own_kept HOa.out ((Kept.refl _).alloc _)) ⟨wa.heap.size, 0, none⟩ 1 1 (hdCells ⟨hd.sort, nn⟩) rfl rfl HN.out H1.out (by simp only [maxLen]; omega) (by omega) (by simp; omega) ?_; intro v' w6 hown6 hg6 _hx6; obtain ⟨g6, cap6, rfl⟩ := ownsRow_succ hown6; have HO6 := Lib.hid hown6; have HG6 := Lib.hid hg6; have rf6 := RowC.grown (RowC.kept HRfa.out ((Kept.refl _).alloc _)) hg6 (fun e => by have := HNb.out bf e.symm; omega); have z0' := (rf6 0 _ rfl).1; have z1' := (rf6 0 _ rfl).2; have HRf6 := Lib.hid rf6; clear rf6 hown6 hg6)
      have hnbe : ∀ q, q < w.heap.size → some q ≠ vv.ownBlock := fun q hq e => by have := HNb.out q e.symm; omega
      have hnb5 : some (w.heap.size + 1) ≠ vv.ownBlock := fun e => by have := HNb.out _ e.symm; omega
      have hnb4 : some w.heap.size ≠ vv.ownBlock := fun e => by have := HNb.out _ e.symm; omega
      obtain ⟨W7, hW7⟩ : ∃ W7 : World, W7 = w6.setCell ⟨bf, 0, none⟩ (.slice (some ⟨g6, 0, none⟩) (k + 1) cap6) := ⟨_, rfl⟩
      have hcl : g < w.heap.size := by
        obtain ⟨g', e', hx⟩ := HF.out (by rw [HLn.out]; omega)
        cases e'
        obtain ⟨p', hp'⟩ : ∃ p', es[0]? = some p' := ⟨_, List.getElem?_eq_getElem (by rw [HLn.out]; omega)⟩
        exact cell_lt (hx _ _ (fl2_at hp').1)
      have b7 : RowC W7 be [.slice (some ⟨g, 0, none⟩) es.length c] := by
        rw [hW7]
        refine RowC.far (RowC.grown (RowC.kept (RowC.kept ?_ HKa.out) ((Kept.refl _).alloc _)) HG6.out (hnbe be le)) n3 _
        exact RowC.kept (HBt.out.row HE.out n3) KH.out
      have g70 : W7.cell? ⟨g, k * 2, none⟩ = some (.int .i64 p.1) := by
        rw [hW7, World.cell?_setCell_far _ _ _ _ (by simpa using Ne.symm ng)]
        exact cell_grown (((Kept.refl _).alloc _).cells _ _ (cell_lt ((HKa.out.cells _ _ (cell_lt S2.out)).trans S2.out)) |>.trans ((HKa.out.cells _ _ (cell_lt S2.out)).trans S2.out)) HG6.out (hnbe g hcl)
      have g71 : W7.cell? ⟨g, k * 2 + 1, none⟩ = some (.int .i64 p.2) := by
        rw [hW7, World.cell?_setCell_far _ _ _ _ (by simpa using Ne.symm ng)]
        exact cell_grown (((Kept.refl _).alloc _).cells _ _ (cell_lt ((HKa.out.cells _ _ (cell_lt S3.out)).trans S3.out)) |>.trans ((HKa.out.cells _ _ (cell_lt S3.out)).trans S3.out)) HG6.out (hnbe g hcl)
      have h57 : RowC W7 (w.heap.size + 1) [.int .i64 a, .int .i64 b] := by rw [hW7]; exact RowC.far (RowC.grown (h5a.out.kept ((Kept.refl _).alloc _)) HG6.out hnb5) (by omega) _
      have h47 : RowC W7 w.heap.size [.int .i64 0, .int .i64 0] := by rw [hW7]; exact RowC.far (RowC.grown (h4a.out.kept ((Kept.refl _).alloc _)) HG6.out hnb4) (by omega) _
      have hf7 : RowC W7 bf [.slice (some ⟨g6, 0, none⟩) (k + 1) cap6] := by rw [hW7]; exact HRf6.out.put (j := 0) (by simp) _
      have o7 : W7.ownsRow (w.heap.size + 1 + 1) 84 2 (.slice (some ⟨g6, 0, none⟩) (k + 1) cap6) (k + 1) (hdFlat fo ++ hdCells ⟨hd.sort, nn⟩) := by
        rw [hW7]
        exact own_blocks HO6.out (fun q hq => Below.heap_setCell w6 ⟨bf, 0, none⟩ _ q (by simp; omega))
      have bt7 : But bf w W7 := by
        rw [hW7]
        refine But.set ?_ 0 _
        have h := ABt.out.trans (But.of_kept ((Kept.refl _).alloc (.cells (hdCells ⟨hd.sort, nn⟩).toArray 84)))
        obtain ⟨a1, a2, a3, a4, a5⟩ := h
        obtain ⟨g1, g2, g3, g4, g5⟩ := HG6.out
        exact ⟨g1.trans a1, g2.trans a2, g3.trans a3, Nat.le_trans a4 g4, fun q hq hne => by
          rw [← a5 q hq hne]
          exact g5 q (Nat.lt_of_lt_of_le hq a4) (hnbe q hq)⟩
      have HW7 := Lib.hid hW7
      have B7 := Lib.hid b7
      have G70 := Lib.hid g70
      have G71 := Lib.hid g71
      have H57 := Lib.hid h57
      have H47 := Lib.hid h47
      have HF7 := Lib.hid hf7
      have O7 := Lib.hid o7
      have BT7 := Lib.hid bt7
      have hz7 : w.heap.size + 1 < W7.heap.size := cell_lt (h57 0 _ rfl).1
      have c70 := (b7 0 _ rfl).1
      have c71 := (h57 0 _ rfl).1
      have c72 := (h57 1 _ rfl).1
      have c73 := (h57 0 _ rfl).2
      have c74 := (h57 1 _ rfl).2
      clear hW7 b7 h57 h47 hf7 o7 bt7 z0' z1' hnbe
      rw [← HW7.out]
      go_region_with (first
          | (go_at_call 100; refine (whole_any _ _).mono ?_; rintro e wb ⟨rfl, hkb⟩; obtain ⟨d0, d1, d2, d3, d4, d5, d6⟩ := S7_of B7.out G70.out G71.out H57.out (((Kept.refl _).drew).trans hkb))
          | (go_at_call 96; refine (T1.out _).mono ?_; rintro e wc ⟨rfl, hkc⟩; obtain ⟨f0, f1, f2, f3, f4, f5, f6⟩ := S7_of B7.out G70.out G71.out H57.out ((((Kept.refl _).drew).trans hkb).trans hkc))
          | (go_at_call 95; refine (T2.out _).mono ?_; rintro e wd ⟨rfl, hkd⟩; obtain ⟨h0, h1, h2, h3, h4, h5, h6⟩ := S7_of B7.out G70.out G71.out H57.out (((((Kept.refl _).drew).trans hkb).trans hkc).trans hkd)))
      all_goals
        go_wp2
        go_roundw
        case rel =>
          have KK : Kept W7 wd := ((((Kept.refl _).drew).trans hkb).trans hkc).trans hkd
          refine ⟨k + 1, r2.1.1, r2.1.2, r2.2, .slice (some ⟨g6, 0, none⟩) (k + 1) cap6, by omega, by go_num, HR2.out, by rw [HOut.out]; simp [HFo.out], ((H57.out.kept KK).put (j := 0) (by simp) _).put (j := 1) (by simp) _, ((H47.out.kept KK).far (by omega) _).far (by omega) _, ((HF7.out.kept KK).far (by omega) _).far (by omega) _, ?_, ?_, ?_⟩
          · rw [HOut.out, hdFlat_snoc]
            exact own_set (own_set (own_kept O7.out KK) _ _ _ (by omega)) _ _ _ (by omega)
          · exact ((BT7.out.trans (But.of_kept KK)).set_new _ _ _ (by omega)).set_new _ _ _ (by omega)
          · have := KK.size
            simp
            omega
        case measure => simp [intOf]; omega
    · obtain rfl : k = hn := by omega
      have hz : (es.zip hs).length = k := by rw [List.length_zip, HLn.out, HH.out.1]; omega
      have hu2 := HUk.out
      rw [List.take_of_length_le (by rw [hz]; exact Nat.le_refl _), HR.out] at hu2
      simp only [Option.some.injEq, Prod.mk.injEq] at hu2
      obtain ⟨⟨rfl, rfl⟩, rfl⟩ := hu2
      have u0 := (H5.out 0 _ rfl).1
      have u1 := (H5.out 1 _ rfl).1
      have e0 := (H4.out 0 _ rfl).1
      have e1 := (H4.out 1 _ rfl).1
      have z0 := (H4.out 0 _ rfl).2
      have z1 := (H4.out 1 _ rfl).2
      clear hz
      go_wp2
      refine bodyPost_ret (v := .agg #[.int .i64 x, .int .i64 y]) (by simp [results, Tryz.results129, go_sem, e0, e1]) rfl ⟨rfl, vv, ?_, ?_, ?_⟩
      · exact (HBt.out.set_new _ _ _ (Nat.le_refl _)).set_new _ _ _ (Nat.le_refl _)
      · exact (HRf.out.far (by omega) _).far (by omega) _
      · rw [HFo.out]
        exact own_base (own_set (own_set HO.out _ _ _ (by omega)) _ _ _ (by omega)) (by omega)
end Go.Proofs.YtcjpecdnenemaaaGreatDoor

namespace Go.Proofs.YtcjpecdnenemaaaGreatDoor
set_option linter.all false
open Go.RowKit Go.Shelf

theorem FillPost.block {bf : Nat} {out : List Hd} {w w' : World} (h : FillPost bf out w w') : ∀ k, k < w.heap.size → k ≠ bf → w'.heap[k]? = w.heap[k]? := by
  obtain ⟨v, ⟨h1, h2, h3, h4, h5⟩, _⟩ := h
  intro k hk hne
  exact h5 k hk (by simpa using hne)
/-- all in all -/
theorem fill_kept {w W2 Wa Wb w'' : World} {bf : Nat} {out : List Hd} (hk : Kept w W2) (hb1 : w.heap.size ≤ bf) (hka : Kept W2 Wa) (hp : FillPost bf out Wa Wb) (ha : Apart2 W2.heap.size (W2.heap.size + 1) Wb w'') : Kept w w'' := by
  have hz := hk.size
  have hza := hka.size
  obtain ⟨v, ⟨h1, h2, h3, h4, h5⟩, _⟩ := hp
  have ho := hk.trans hka
  exact ⟨(ha.os.trans h1).trans ho.os, (ha.tape.trans h2).trans ho.tape, (ha.output.trans h3).trans ho.output, by rw [ha.size]; have := ho.size; omega, fun k hk' => by
    rw [ha.block k (by omega) (by omega), h5 k (by omega) (by simp; omega)]
    exact ho.block k hk'⟩

theorem e129 : ∀ args w, (callFunc 129 args).run Tryz.prog w = .ok (.enter 129 args) w := enters_of Tryz.func129 (by kernel_rfl) rfl
set_option maxRecDepth 100000 in
set_option maxHeartbeats 3200000 in
theorem fill_ok (A : Option Addr) (n c : Nat) (xs : List Eqv) (B : Option Addr) (hn hc : Nat) (hs : List Hd) (sn sd day known x y : Int) (out : List Hd) (w : World) (hT : TabA w A n c xs) (hlt : n ≤ 1000000) (hH : HeadsA w B hn hc hs)
    (hBl : ∀ b off, B = some ⟨b, off, none⟩ → b < w.heap.size) (he : eachE xs hs sn sd day known = 0) (hr : fillS (sn, sd) ((eachL xs hs day known).zip hs) = some ((x, y), out)) :
    Calls Tryz.prog 63 #[.slice A n c, .slice B hn hc, .agg #[.int .i64 sn, .int .i64 sd], .int .i64 day, .int .i64 known] w fun e w' => ∃ v, (e = .returned (.tuple #[v, .int .i64 0]) ∧ w'.ownsRow w.heap.size 84 2 v out.length (hdFlat out)) ∧ Kept w w' := by
  obtain ⟨hchk, hare, hvld, hall⟩ := each_ok he
  have hev := eachL_vld hchk hall
  obtain ⟨h12, hnv⟩ := areS_ok hare
  have hlen : (eachL xs hs day known).length = hs.length := by simp [eachL]
  have hmf : ∀ (fn : Fn) (first cap : Array Value) (w : World), (Instr.makeFunc fn first cap).run Tryz.prog w = .ok (.func fn first cap) w := fun _ _ _ _ => rfl
  obtain ⟨W0, hW0⟩ : ∃ W0 : World, W0 = (w.alloc (.cells #[.slice B hn hc] 61)).alloc (.cells #[.int .i64 sn, .int .i64 sd] 23) := ⟨_, rfl⟩
  have K0 : Kept w W0 := by rw [hW0]; exact ((Kept.refl w).alloc _).alloc _
  have r1 : RowC W0 w.heap.size [.slice B hn hc] := by rw [hW0]; exact (RowC.new w [.slice B hn hc] 61).kept ((Kept.refl _).alloc _)
  have r2 : RowC W0 (w.heap.size + 1) [.int .i64 sn, .int .i64 sd] := by
    have := RowC.new (w.alloc (.cells #[.slice B hn hc] 61)) [.int .i64 sn, .int .i64 sd] 23
    rw [World.size_alloc] at this
    rw [hW0]; exact this
  have z0 : W0.heap.size = w.heap.size + 1 + 1 := by rw [hW0]; simp
  have HW0 := Lib.hid hW0
  have R1 := Lib.hid r1
  have R2 := Lib.hid r2
  have Z0 := Lib.hid z0
  have HEa : RowKit.Hid (Calls Tryz.prog 127 #[.slice A n c, .slice B hn hc, .agg #[.int .i64 sn, .int .i64 sd], .int .i64 day, .int .i64 known] W0 fun e w' => ∃ v, (e = .returned (.tuple #[v, .int .i64 0]) ∧ w'.ownsRow W0.heap.size 92 2 v hs.length (fl2 (eachL xs hs day known))) ∧ Kept W0 w') := Lib.hid ((eachOf_any A n c xs B hn hc hs sn sd day known W0 (hT.kept K0) hlt (hH.kept K0)).mono (fun e w' h => by
    rcases h with ⟨⟨h1, _⟩ | ⟨_, v, h2, h3⟩, h4⟩
    · exact absurd he h1
    · exact ⟨v, ⟨h2, h3⟩, h4⟩))
  have HX : RowKit.Hid (∀ (be bf : Nat) (v : Value) (W : World), Kept W0 W → RowC W be [v] → FrA W v (eachL xs hs day known) → RowC W bf [.slice none 0 0] → W0.heap.size < bf → be ≠ bf → (∀ A c, v = .slice A (eachL xs hs day known).length c → ∀ g, A = some ⟨g, 0, none⟩ → g ≠ bf) →
      Calls Tryz.prog 129 #[.pointer (some ⟨w.heap.size + 1, 0, none⟩), .pointer (some ⟨w.heap.size, 0, none⟩), .pointer (some ⟨be, 0, none⟩), .pointer (some ⟨bf, 0, none⟩)] W fun e w' => e = .returned (.agg #[.int .i64 x, .int .i64 y]) ∧ FillPost bf out W w') := Lib.hid (fun be bf v W hk hv hf hb hlt2 hne h5 =>
    fill1_ok (w.heap.size + 1) w.heap.size be bf B hn hc hs v (eachL xs hs day known) sn sd x y out W (r1.kept hk 0 _ rfl).1 ((hH.kept K0).kept hk) hv hf hlen (r2.kept hk) hb hvld hev (fun h hh => (hnv h hh).2) (by rw [← hH.1]; exact h12) (by omega) (by omega) hne (fun b off hB => by have := hBl b off hB; omega) h5 hr)
  have b1 := (r1 0 _ rfl).1
  have b2 := (r2 0 _ rfl).1
  have b3 := (r2 1 _ rfl).1
  clear hW0 r1 r2 z0 hT hH he hr hchk hare hvld hall hev h12 hnv hlen hBl
  have g129 := e129
  go_enter Tryz.func63, Tryz.ntmps63
  go_wp2_with fail
  rw [← HW0.out]
  refine HEa.out.mono ?_
  rintro e w1 ⟨v, ⟨rfl, hown⟩, hk1⟩
  have hv := FrA.of_own (es := eachL xs hs day known) (by rw [show (eachL xs hs day known).length = hs.length by simp [eachL]]; exact hown)
  have HV := Lib.hid hv
  have hv5 : ∀ A c, v = .slice A (eachL xs hs day known).length c → ∀ g, A = some ⟨g, 0, none⟩ → g ≠ w1.heap.size + 1 := by
    intro A' c' hA g hg
    subst hg
    rcases own_form hown with ⟨e1, _⟩ | ⟨g', cap, e1, _, _, _, h4⟩
    · rw [hA] at e1
      injection e1 with e1 _ _
      cases e1
    · rw [hA] at e1
      injection e1 with e1 _ _
      injection e1 with e1
      injection e1 with e1
      omega
  have HV5 := Lib.hid hv5
  clear hown hv5
  obtain ⟨A', c', rfl, _⟩ := hv
  obtain ⟨W2, hW2⟩ : ∃ W2 : World, W2 = (w1.alloc (.cells #[.slice A' (eachL xs hs day known).length c'] 127)).alloc (.cells #[.slice none 0 0] 61) := ⟨_, rfl⟩
  have NB : RowC W2 w1.heap.size [.slice A' (eachL xs hs day known).length c'] := by rw [hW2]; exact (RowC.new w1 _ 127).kept ((Kept.refl _).alloc _)
  have NF : RowC W2 (w1.heap.size + 1) [.slice none 0 0] := by
    have := RowC.new (w1.alloc (.cells #[.slice A' (eachL xs hs day known).length c'] 127)) [.slice none 0 0] 61
    rw [World.size_alloc] at this
    rw [hW2]; exact this
  have kw12 : Kept w1 W2 := by rw [hW2]; exact ((Kept.refl _).alloc _).alloc _
  have z2 : W2.heap.size = w1.heap.size + 1 + 1 := by rw [hW2]; simp
  have HW2 := Lib.hid hW2
  have HNB := Lib.hid NB
  have HNF := Lib.hid NF
  have HK12 := Lib.hid kw12
  have HK1 := Lib.hid hk1
  have Z2 := Lib.hid z2
  have hz := hk1.size
  have hz0 := Z0.out
  have hwl : w.heap.size < w1.heap.size := by omega
  have hW0l : W0.heap.size < w1.heap.size + 1 := by omega
  clear hW2 NB NF kw12 z2 hz hz0 b1 b2 b3
  have HF : RowKit.Hid (∀ W, Kept W2 W → Calls Tryz.prog 129 #[.pointer (some ⟨w.heap.size + 1, 0, none⟩), .pointer (some ⟨w.heap.size, 0, none⟩), .pointer (some ⟨w1.heap.size, 0, none⟩), .pointer (some ⟨w1.heap.size + 1, 0, none⟩)] W fun e w' => e = .returned (.agg #[.int .i64 x, .int .i64 y]) ∧ FillPost (w1.heap.size + 1) out W w') := Lib.hid (fun W hW =>
    HX.out w1.heap.size (w1.heap.size + 1) _ W ((HK1.out.trans HK12.out).trans hW) (HNB.out.kept hW) ((HV.out.kept HK12.out).kept hW) (HNF.out.kept hW) hW0l (by omega) HV5.out)
  go_wp2_with fail
  rw [← HW2.out]
  refine (reckon_any 129 _ x y (FillPost (w1.heap.size + 1) out) _ e129 (fun W1 W1' hp k hk1' hk2 => hp.block k hk2 (by have := Z2.out; omega)) (fun W hW _ => HF.out W hW)).mono ?_
  rintro e w2 ⟨rfl, Wa, Wb, hka, hza, hpo, hap⟩
  have hkf := fill_kept ((K0.trans HK1.out).trans HK12.out) (by omega) hka hpo hap
  obtain ⟨vv, hbut, hrow, hown⟩ := hpo
  have hc2 : w2.cell? ⟨w1.heap.size + 1, 0, none⟩ = some vv := by
    have := Z2.out
    rw [World.cell?_of_block (hap.block (w1.heap.size + 1) (by omega) (by omega))]
    exact (hrow 0 _ rfl).1
  have ho2 : w2.ownsRow w.heap.size 84 2 vv out.length (hdFlat out) := by
    have h1 := Z2.out
    have h2 := (HK1.out.trans (HK12.out.trans hka)).size
    have h3 := Z0.out
    exact own_base (own_blocks hown (fun k hk => hap.block k (by omega) (by omega))) (by omega)
  have HKF := Lib.hid hkf
  have HO2 := Lib.hid ho2
  clear hkf ho2 hown hrow hbut hap hka hza
  go_wp2
  go_ret2
  exact ⟨vv, ⟨rfl, HO2.out⟩, HKF.out⟩
end Go.Proofs.YtcjpecdnenemaaaGreatDoor
