/-
  Fill for all inputs.
-/
import Derived.Test.YtcjpecdnenemaaaGreatDoorUf0
import Derived.Test.YtcjpecdnenemaaaGreatDoorGP
import Derived.Deep.RegionHeld3
namespace Go.Proofs.YtcjpecdnenemaaaGreatDoor
set_option linter.all false
open Go.RowKit Go.Shelf

theorem S8_of {W W' : World} {t2 g k t5 : Nat} {A : Option Addr} {n c : Nat} {en ed a b : Int} (h1 : RowC W t2 [.slice A n c]) (h2 : W.cell? ⟨g, k * 2, none⟩ = some (.int .i64 en)) (h3 : W.cell? ⟨g, k * 2 + 1, none⟩ = some (.int .i64 ed)) (h5 : RowC W t5 [.int .i64 a, .int .i64 b])
    (h : Kept W W') : W'.cell? ⟨t2, 0, none⟩ = some (.slice A n c) ∧ W'.cell? ⟨g, k * 2, none⟩ = some (.int .i64 en) ∧ W'.cell? ⟨g, k * 2 + 1, none⟩ = some (.int .i64 ed) ∧ W'.cell? ⟨t5, 0, none⟩ = some (.int .i64 a) ∧ W'.cell? ⟨t5, 1, none⟩ = some (.int .i64 b) ∧ Kept W W' :=
  ⟨(h1.kept h 0 _ rfl).1, (h.cells _ _ (cell_lt h2)).trans h2, (h.cells _ _ (cell_lt h3)).trans h3, (h5.kept h 0 _ rfl).1, (h5.kept h 1 _ rfl).1, h⟩
theorem but_kept {w W2 Wa Wb w'' : World} {bf : Nat} (hk : Kept w W2) (hb1 : w.heap.size ≤ bf) (hka : Kept W2 Wa) (hp : But bf Wa Wb) (ha : Apart2 W2.heap.size (W2.heap.size + 1) Wb w'') : Kept w w'' := by
  have hz := hk.size
  have hza := hka.size
  obtain ⟨h1, h2, h3, h4, h5⟩ := hp
  have ho := hk.trans hka
  exact ⟨(ha.os.trans h1).trans ho.os, (ha.tape.trans h2).trans ho.tape, (ha.output.trans h3).trans ho.output, by rw [ha.size]; have := ho.size; omega, fun k hk' => by
    rw [ha.block k (by omega) (by omega), h5 k (by omega) (by simp; omega)]
    exact ho.block k hk'⟩
def RecLim (w : World) (Post : World → World → Prop) (e : Ending) (w'' : World) : Prop :=
  e = .returned (.tuple #[.agg #[.int .i64 0, .int .i64 0], .int .i64 2]) ∧ ∃ w1 w', Kept w w1 ∧ w1.heap.size = w.heap.size + 1 + 1 ∧ Post w1 w' ∧ Apart2 w.heap.size (w.heap.size + 1) w' w''
set_option maxRecDepth 100000 in
theorem reckon_limP (g : Nat) (cap : Array Value) (Post : World → World → Prop) (w : World) (eg : ∀ args w, (callFunc g args).run Tryz.prog w = .ok (.enter g args) w)
    (hp : ∀ w1 w', Post w1 w' → ∀ k, w.heap.size ≤ k → k < w1.heap.size → w'.heap[k]? = w1.heap[k]?)
    (h : ∀ w1, Kept w w1 → w1.heap.size = w.heap.size + 1 + 1 → Calls Tryz.prog g cap w1 fun e w' => e = .panicked limPanic ∧ Post w1 w') :
    Calls Tryz.prog 83 #[.func (.func g) #[] cap] w (RecLim w Post) := by
  have hmf : ∀ (fn : Fn) (first cap : Array Value) (w : World), (Instr.makeFunc fn first cap).run Tryz.prog w = .ok (.func fn first cap) w := fun _ _ _ _ => rfl
  obtain ⟨W1, hW1⟩ : ∃ W1 : World, W1 = (w.alloc (.cells #[.int .i64 0, .int .i64 0] 23)).alloc (.cells #[.int .i64 0] 24) := ⟨_, rfl⟩
  have K1 : Kept w W1 := by rw [hW1]; exact ((Kept.refl w).alloc _).alloc _
  have Z1 : W1.heap.size = w.heap.size + 1 + 1 := by rw [hW1]; simp
  have r0 : RowC W1 w.heap.size [.int .i64 0, .int .i64 0] := by rw [hW1]; exact (RowC.new w [.int .i64 0, .int .i64 0] 23).kept ((Kept.refl _).alloc _)
  have r1 : RowC W1 (w.heap.size + 1) [.int .i64 0] := by
    have := RowC.new (w.alloc (.cells #[.int .i64 0, .int .i64 0] 23)) [.int .i64 0] 24
    rw [World.size_alloc] at this
    rw [hW1]; exact this
  have H := Lib.hid (h W1 K1 Z1)
  have HP := Lib.hid (hp W1)
  have HW1 := Lib.hid hW1
  have HZ1 := Lib.hid Z1
  have R0 := Lib.hid r0
  have R1 := Lib.hid r1
  clear h hp hW1 Z1 r0 r1
  go_enter_defers Tryz.func83, Tryz.ntmps83
  go_wp2_with fail
  rw [← HW1.out]
  refine H.out.mono ?_
  rintro e w1 ⟨rfl, hpost⟩
  have hb := HP.out w1 hpost
  have hz := HZ1.out
  have c0 : RowC w1 w.heap.size [.int .i64 0, .int .i64 0] := fun j v hv => by
    have hk := hb w.heap.size (Nat.le_refl _) (by omega)
    exact ⟨(World.cell?_of_block hk).trans (R0.out j v hv).1, (World.frozen?_of_block hk).trans (R0.out j v hv).2⟩
  have c1 : RowC w1 (w.heap.size + 1) [.int .i64 0] := fun j v hv => by
    have hk := hb (w.heap.size + 1) (by omega) (by omega)
    exact ⟨(World.cell?_of_block hk).trans (R1.out j v hv).1, (World.frozen?_of_block hk).trans (R1.out j v hv).2⟩
  have e0 := (c0 0 _ rfl).1
  have e1 := (c0 1 _ rfl).1
  have e2 := (c1 0 _ rfl).1
  have z0 := (c0 0 _ rfl).2
  have z1 := (c0 1 _ rfl).2
  have z2 := (c1 0 _ rfl).2
  clear c0 c1 hb hz
  have HPo := Lib.hid hpost
  clear hpost
  go_wp2
  refine leaves_cons (f := 143) (args := #[.pointer (some ⟨w.heap.size, 0, none⟩), .pointer (some ⟨w.heap.size + 1, 0, none⟩)]) (by simp) (by simp [go_sem]) ?_
  refine (catch_panicking w.heap.size (w.heap.size + 1) _ _ _ 24 (.int .i64 2) [] _ (by omega) e0 e1 e2 z0 z1 z2).mono ?_
  rintro e u' w'' ⟨rfl, rfl, rfl⟩
  simp [Leaves, settle, results, Tryz.results83, go_sem, e0, e1, e2]
  refine ⟨rfl, W1, w1, K1, HZ1.out, HPo.out, ?_⟩
  exact ((((Apart2.refl _ _ w1).set _ _ _ (.inl rfl)).set _ _ _ (.inl rfl)).set _ _ _ (.inr rfl))

set_option maxRecDepth 100000 in
set_option maxHeartbeats 6400000 in
theorem fill1_lim (bs bh be bf : Nat) (B : Option Addr) (hn hc : Nat) (hs : List Hd) (v : Value) (es : List (Int × Int)) (sn sd : Int) (w : World) (hB : w.cell? ⟨bh, 0, none⟩ = some (.slice B hn hc)) (hH : HeadsA w B hn hc hs) (hE : RowC w be [v]) (hF : FrA w v es) (hlen : es.length = hs.length)
    (hS : RowC w bs [.int .i64 sn, .int .i64 sd]) (hbf : RowC w bf [.slice none 0 0]) (hsv : vld sn sd = true) (hev : ∀ p ∈ es, vld p.1 p.2 = true ∧ 0 < p.1) (hnv : ∀ h ∈ hs, 0 ≤ h.num ∧ h.num ≤ 100000) (h12 : hn ≤ 12)
    (n1 : bs ≠ bf) (n2 : bh ≠ bf) (n3 : be ≠ bf) (n4 : 0 < hn → ∀ b off, B = some ⟨b, off, none⟩ → b ≠ bf) (n5 : ∀ A c, v = .slice A es.length c → ∀ g, A = some ⟨g, 0, none⟩ → g ≠ bf)
    (hr : fillS (sn, sd) (es.zip hs) = none) :
    Calls Tryz.prog 129 #[.pointer (some ⟨bs, 0, none⟩), .pointer (some ⟨bh, 0, none⟩), .pointer (some ⟨be, 0, none⟩), .pointer (some ⟨bf, 0, none⟩)] w fun e w' => e = .panicked limPanic ∧ But bf w w' := by
  obtain ⟨i0, hi0, hz0, hz1, hz2⟩ := info_parts info84
  obtain ⟨A, c, rfl, hac, hcm, hfc⟩ := hF
  have HB := Lib.hid hB
  have HH := Lib.hid hH
  have HE := Lib.hid hE
  have HF := Lib.hid hfc
  have HLn := Lib.hid hlen
  have HS := Lib.hid hS
  have HBf := Lib.hid hbf
  have HR := Lib.hid hr
  have HSV := Lib.hid hsv
  have HEV := Lib.hid hev
  have HNV := Lib.hid hnv
  have N4 := Lib.hid n4
  have N5 := Lib.hid n5
  have lh := cell_lt hB
  have le := cell_lt (hE 0 _ rfl).1
  have ls := cell_lt (hS 0 _ rfl).1
  have lf := cell_lt (hbf 0 _ rfl).1
  have s0 := (hS 0 _ rfl).1
  have s1 := (hS 1 _ rfl).1
  have hnc := hH.2.1
  have hcm2 := hH.2.2.1
  have R4 := (RowC.new w [.int .i64 0, .int .i64 0] 92).kept ((Kept.refl _).alloc (.cells #[.int .i64 sn, .int .i64 sd] 92))
  have R5 := RowC.new (w.alloc (.cells #[.int .i64 0, .int .i64 0] 92)) [.int .i64 sn, .int .i64 sd] 92
  rw [World.size_alloc] at R5
  have H4 := Lib.hid R4
  have H5 := Lib.hid R5
  clear hH hE hfc hlen hS hbf hr hsv hev hnv n4 n5 R4 R5
  go_enter Tryz.func129, Tryz.ntmps129
  go_wp2
  clear s0 s1 hB
  go_loopw [12] (fun i wr => ∃ (k : Nat) (a b : Int) (fo : List Hd) (vv : Value), k ≤ hn ∧ i = .int .i64 k ∧ fillS (sn, sd) ((es.zip hs).take k) = some ((a, b), fo) ∧ fo.length = k ∧ RowC wr (w.heap.size + 1) [.int .i64 a, .int .i64 b] ∧ RowC wr w.heap.size [.int .i64 0, .int .i64 0] ∧ RowC wr bf [vv] ∧ wr.ownsRow (w.heap.size + 1 + 1) 84 2 vv k (hdFlat fo) ∧ But bf w wr ∧ w.heap.size + 1 < wr.heap.size) (fun i _ => hn - (intOf i).toNat)
  case atStart => exact ⟨0, sn, sd, [], .slice none 0 0, by omega, by first | rfl | go_num, rfl, rfl, H5.out, H4.out, (HBf.out.kept ((Kept.refl _).alloc _)).kept ((Kept.refl _).alloc _), by exact ⟨rfl, .inl ⟨rfl, rfl⟩⟩, But.of_kept (((Kept.refl _).alloc _).alloc _), by simp⟩
  case round =>
    obtain ⟨k, a, b, fo, vv, hk, rfl, hu, hfo, hr5, hr4, hrf, hown, hbt, hzr⟩ := hrel
    have HUk := Lib.hid hu
    have HFo := Lib.hid hfo
    have H5 := Lib.hid hr5
    have H4 := Lib.hid hr4
    have HRf := Lib.hid hrf
    have HO := Lib.hid hown
    have HBt := Lib.hid hbt
    clear hu hfo hr5 hr4 hrf hown
    have q1 := hbt.cell (HE.out 0 _ rfl).1 n3
    have hler : be < wr.heap.size := by have := hbt.size; omega
    by_cases hlt : k < hn
    · obtain ⟨bb, off, hB, hcc⟩ := HH.out.2.2.2.2 (by omega)
      have nbb := N4.out (by omega) bb off hB
      subst hB
      have hxl : k < hs.length := by rw [HH.out.1]; exact hlt
      obtain ⟨hd, hhd⟩ : ∃ hd, hs[k]? = some hd := ⟨hs[k]'hxl, List.getElem?_eq_getElem hxl⟩
      obtain ⟨p, hp⟩ : ∃ p, es[k]? = some p := ⟨_, List.getElem?_eq_getElem (by rw [HLn.out]; exact hxl)⟩
      obtain ⟨g, hA, hfl⟩ := HF.out (by rw [HLn.out]; omega)
      have ng := N5.out A c rfl g hA
      subst hA
      have v0 := hbt.cell (hfl _ _ (fl2_at hp).1) ng
      have v1 := hbt.cell (hfl _ _ (fl2_at hp).2) ng
      have q0 := hbt.cell (hcc k hd hhd).1 nbb
      have q2 := hbt.cell (hcc k hd hhd).2 nbb
      have hpv : Bd p.1 p.2 := vld_bd (HEV.out p (List.mem_of_getElem? hp)).1
      have hp0 := (HEV.out p (List.mem_of_getElem? hp)).2
      obtain ⟨n0, n1'⟩ := HNV.out hd (List.mem_of_getElem? hhd)
      have hzip : (es.zip hs)[k]? = some (p, hd) := by
        rw [List.getElem?_zip_eq_some]
        exact ⟨hp, hhd⟩
      have hsn : fillS (sn, sd) ((es.zip hs).take (k + 1)) = stepF (some ((a, b), fo)) (p, hd) := by rw [take_snoc' hzip, fillS_snoc, HUk.out]
      have hav : Bd a b := vld_bd (fillS_vld _ ((sn, sd), []) ((a, b), fo) HSV.out HUk.out)
      have hfb := fitS_bd a b p.1 p.2 (by have := hpv.1.1; omega) (Int.mul_nonneg (by have := hav.1.1; omega) (by omega))
      have TF : RowKit.Hid (∀ W, Calls Tryz.prog 130 #[.agg #[.int .i64 a, .int .i64 b], .agg #[.int .i64 p.1, .int .i64 p.2]] W fun e w' => e = .returned (.int .i64 (fitS a b p.1 p.2)) ∧ Kept W w') := Lib.hid (fun W => fitting_any a b p.1 p.2 hav hpv hp0 W)
      obtain ⟨ft, hft⟩ : ∃ ft, fitS a b p.1 p.2 = ft := ⟨_, rfl⟩
      rw [hft] at TF hfb
      obtain ⟨nn, hnn⟩ : ∃ nn, min hd.num ft = nn := ⟨_, rfl⟩
      have hn0 : 0 ≤ nn := by rw [← hnn]; omega
      have hn1 : nn ≤ 100000 := by rw [← hnn]; omega
      have HNN := Lib.hid hnn
      have HSN : RowKit.Hid (fillS (sn, sd) ((es.zip hs).take (k + 1)) = match mulF p.1 p.2 nn 1 with | some m => (match lowF (a * m.2 + -m.1 * b) (b * m.2) with | some l => some (l, fo ++ [⟨hd.sort, nn⟩]) | none => none) | none => none) := Lib.hid (by
        rw [hsn]
        unfold stepF
        dsimp only
        rw [hft, hnn]
        rfl)
      have HPV := Lib.hid hpv
      have HAV := Lib.hid hav
      have HN0 := Lib.hid (And.intro hn0 hn1)
      clear hfl hcc hhd hp hpv hzip hsn hav hfb hft hnn hp0
      obtain ⟨Wh, hWh⟩ : ∃ Wh : World, Wh = wr.alloc (.cells #[.string hd.sort, .int .i64 hd.num] 84) := ⟨_, rfl⟩
      have kh : Kept wr Wh := by rw [hWh]; exact (Kept.refl _).alloc _
      have s1 := (kh.cells _ _ hler).trans q1
      have s2 := (kh.cells _ _ (cell_lt v0)).trans v0
      have s3 := (kh.cells _ _ (cell_lt v1)).trans v1
      have rh : RowC Wh wr.heap.size [.string hd.sort, .int .i64 hd.num] := by rw [hWh]; exact RowC.new wr [.string hd.sort, .int .i64 hd.num] 84
      have S1 := Lib.hid s1
      have S2 := Lib.hid s2
      have S3 := Lib.hid s3
      have RH := Lib.hid rh
      have HWh := Lib.hid hWh
      have KH := Lib.hid kh
      have H5h := Lib.hid (H5.out.kept kh)
      clear s1 s2 s3 rh hWh kh v0 v1
      have i0' : (0 : Int) ≤ (k : Int) := by omega
      have i1 : (k : Int) < (es.length : Int) := by have := HLn.out; omega
      have it : (k : Int).toNat = k := by omega
      go_wp2_with fail
      rw [← HWh.out]
      go_region_held3 (fun w' => w'.cell? ⟨be, 0, none⟩ = some (.slice (some ⟨g, 0, none⟩) es.length c) ∧ w'.cell? ⟨g, k * 2, none⟩ = some (.int .i64 p.1) ∧ w'.cell? ⟨g, k * 2 + 1, none⟩ = some (.int .i64 p.2) ∧ w'.cell? ⟨wr.heap.size, 1, none⟩ = some (.int .i64 hd.num) ∧ w'.cell? ⟨w.heap.size + 1, 0, none⟩ = some (.int .i64 a) ∧ w'.cell? ⟨w.heap.size + 1, 1, none⟩ = some (.int .i64 b) ∧ Kept Wh w')
        (first
          | exact S5_of S1.out S2.out S3.out (RH.out 1 _ rfl).1 H5h.out ((Kept.refl _).drew)
          | exact S5_of S1.out S2.out S3.out (RH.out 1 _ rfl).1 H5h.out (((Kept.refl _).drew).trans hka)
          | fail)
        (first
          | (go_at_call 130; refine (TF.out _).mono ?_; rintro e wa ⟨rfl, hka⟩)
          | fail)
      rw [HNN.out]
      have ka : Kept Wh wa := ((Kept.refl _).drew).trans hka
      have kwa := KH.out.trans ka
      have rha := RH.out.kept ka
      have x0 := (rha 0 _ rfl).1
      have x1 := (rha 1 _ rfl).1
      have rfa := HRf.out.kept kwa
      have y0 := (rfa 0 _ rfl).1
      have y1 := (rfa 0 _ rfl).2
      have lfa := cell_lt y0
      have lx := cell_lt x0
      have hoa := own_kept HO.out kwa
      have hza := kwa.size
      have HOa := Lib.hid hoa
      have HRfa := Lib.hid rfa
      have HKwa := Lib.hid kwa
      have HKa := Lib.hid ka
      have HN := Lib.hid (news_of (W := wa) (cs := hdCells ⟨hd.sort, nn⟩) (t := 84) (m := wa.heap.size) rfl)
      have H1 := Lib.hid (one2h ⟨hd.sort, nn⟩)
      have ABt := Lib.hid (HBt.out.trans (But.of_kept kwa))
      have h5a := Lib.hid (H5.out.kept kwa)
      have h4a := Lib.hid (H4.out.kept kwa)
      have hnb : ∀ r, vv.ownBlock = some r → w.heap.size + 1 < r := fun r hr => by have := (HO.out.lt r hr).1; omega
      have HNb := Lib.hid hnb
      clear hoa rfa kwa ka rha hnb
      go_wp2_with (at_builtin; refine wpList_append_own _ rfl (.tmp 26) (.tmp 31) 61 rfl (w.heap.size + 1 + 1) 84 i0 _ 2 24 Tryz.underlying61 hi0 hz0 hz1 hz2 rfl (by decide) _ k (hdFlat fo) rfl (own_kept HOa.out ((Kept.refl _).alloc _)) ⟨wa.heap.size, 0, none⟩ 1 1 (hdCells ⟨hd.sort, nn⟩) rfl rfl HN.out H1.out (by simp only [maxLen]; omega) (by omega) (by simp; omega) ?_; intro v' w6 hown6 hg6 _hx6; obtain ⟨g6, cap6, rfl⟩ := ownsRow_succ hown6; have HO6 := Lib.hid hown6; have HG6 := Lib.hid hg6; have rf6 := RowC.grown (RowC.kept HRfa.out ((Kept.refl _).alloc _)) hg6 (fun e => by have := HNb.out bf e.symm; omega); have z0' := (rf6 0 _ rfl).1; have z1' := (rf6 0 _ rfl).2; have HRf6 := Lib.hid rf6; clear rf6 hown6 hg6)
      have hnbe : ∀ q, q < w.heap.size → some q ≠ vv.ownBlock := fun q hq e => by have := HNb.out q e.symm; omega
      have hnb5 : some (w.heap.size + 1) ≠ vv.ownBlock := fun e => by have := HNb.out _ e.symm; omega
      have hnb4 : some w.heap.size ≠ vv.ownBlock := fun e => by have := HNb.out _ e.symm; omega
      obtain ⟨W7, hW7⟩ : ∃ W7 : World, W7 = w6.setCell ⟨bf, 0, none⟩ (.slice (some ⟨g6, 0, none⟩) (k + 1) cap6) := ⟨_, rfl⟩
      have hcl : g < w.heap.size := by
        obtain ⟨g', e', hx⟩ := HF.out (by rw [HLn.out]; omega)
        cases e'
        obtain ⟨p', hp'⟩ : ∃ p', es[0]? = some p' := ⟨_, List.getElem?_eq_getElem (by rw [HLn.out]; omega)⟩
        exact cell_lt (hx _ _ (fl2_at hp').1)
      have b7 : RowC W7 be [.slice (some ⟨g, 0, none⟩) es.length c] := by
        rw [hW7]
        refine RowC.far (RowC.grown (RowC.kept (RowC.kept ?_ HKa.out) ((Kept.refl _).alloc _)) HG6.out (hnbe be le)) n3 _
        exact RowC.kept (HBt.out.row HE.out n3) KH.out
      have g70 : W7.cell? ⟨g, k * 2, none⟩ = some (.int .i64 p.1) := by
        rw [hW7, World.cell?_setCell_far _ _ _ _ (by simpa using Ne.symm ng)]
        exact cell_grown (((Kept.refl _).alloc _).cells _ _ (cell_lt ((HKa.out.cells _ _ (cell_lt S2.out)).trans S2.out)) |>.trans ((HKa.out.cells _ _ (cell_lt S2.out)).trans S2.out)) HG6.out (hnbe g hcl)
      have g71 : W7.cell? ⟨g, k * 2 + 1, none⟩ = some (.int .i64 p.2) := by
        rw [hW7, World.cell?_setCell_far _ _ _ _ (by simpa using Ne.symm ng)]
        exact cell_grown (((Kept.refl _).alloc _).cells _ _ (cell_lt ((HKa.out.cells _ _ (cell_lt S3.out)).trans S3.out)) |>.trans ((HKa.out.cells _ _ (cell_lt S3.out)).trans S3.out)) HG6.out (hnbe g hcl)
      have h57 : RowC W7 (w.heap.size + 1) [.int .i64 a, .int .i64 b] := by rw [hW7]; exact RowC.far (RowC.grown (h5a.out.kept ((Kept.refl _).alloc _)) HG6.out hnb5) (by omega) _
      have h47 : RowC W7 w.heap.size [.int .i64 0, .int .i64 0] := by rw [hW7]; exact RowC.far (RowC.grown (h4a.out.kept ((Kept.refl _).alloc _)) HG6.out hnb4) (by omega) _
      have hf7 : RowC W7 bf [.slice (some ⟨g6, 0, none⟩) (k + 1) cap6] := by rw [hW7]; exact HRf6.out.put (j := 0) (by simp) _
      have o7 : W7.ownsRow (w.heap.size + 1 + 1) 84 2 (.slice (some ⟨g6, 0, none⟩) (k + 1) cap6) (k + 1) (hdFlat fo ++ hdCells ⟨hd.sort, nn⟩) := by
        rw [hW7]
        exact own_blocks HO6.out (fun q hq => Below.heap_setCell w6 ⟨bf, 0, none⟩ _ q (by simp; omega))
      have bt7 : But bf w W7 := by
        rw [hW7]
        refine But.set ?_ 0 _
        have h := ABt.out.trans (But.of_kept ((Kept.refl _).alloc (.cells (hdCells ⟨hd.sort, nn⟩).toArray 84)))
        obtain ⟨a1, a2, a3, a4, a5⟩ := h
        obtain ⟨g1, g2, g3, g4, g5⟩ := HG6.out
        exact ⟨g1.trans a1, g2.trans a2, g3.trans a3, Nat.le_trans a4 g4, fun q hq hne => by
          rw [← a5 q hq hne]
          exact g5 q (Nat.lt_of_lt_of_le hq a4) (hnbe q hq)⟩
      have HW7 := Lib.hid hW7
      have B7 := Lib.hid b7
      have G70 := Lib.hid g70
      have G71 := Lib.hid g71
      have H57 := Lib.hid h57
      have H47 := Lib.hid h47
      have HF7 := Lib.hid hf7
      have O7 := Lib.hid o7
      have BT7 := Lib.hid bt7
      have hz7 : w.heap.size + 1 < W7.heap.size := cell_lt (h57 0 _ rfl).1
      have c70 := (b7 0 _ rfl).1
      have c71 := (h57 0 _ rfl).1
      have c72 := (h57 1 _ rfl).1
      have c73 := (h57 0 _ rfl).2
      have c74 := (h57 1 _ rfl).2
      clear hW7 b7 h57 h47 hf7 o7 bt7 z0' z1' hnbe
      rw [← HW7.out]
      have hpv := HPV.out
      have hav := HAV.out
      obtain ⟨hn0, hn1⟩ := HN0.out
      rcases hmm : mulF p.1 p.2 nn 1 with _ | m
      · have T1 : RowKit.Hid (∀ W, Calls Tryz.prog 96 #[.agg #[.int .i64 p.1, .int .i64 p.2], .agg #[.int .i64 nn, .int .i64 1]] W fun e w' => e = .panicked limPanic ∧ Kept W w') := Lib.hid (fun W => times_none _ _ _ _ hpv ⟨by omega, by omega⟩ hmm W)
        clear hmm hpv hav hn0 hn1
        refine wp_region_held_drew (S := (fun w' => w'.cell? ⟨be, 0, none⟩ = some (.slice (some ⟨g, 0, none⟩) es.length c) ∧ w'.cell? ⟨g, k * 2, none⟩ = some (.int .i64 p.1) ∧ w'.cell? ⟨g, k * 2 + 1, none⟩ = some (.int .i64 p.2) ∧ w'.cell? ⟨w.heap.size + 1, 0, none⟩ = some (.int .i64 a) ∧ w'.cell? ⟨w.heap.size + 1, 1, none⟩ = some (.int .i64 b) ∧ Kept W7 w')) (by kernel_rfl) (S8_of B7.out G70.out G71.out H57.out ((Kept.refl _).drew)) (fun hHeld => ?_)
        refine take_atU (i := 0) (d := some 33) (v := ?_) rfl rfl (by kernel_rfl) (by kernel_rfl) (by kernel_rfl) (fun _ _ _ h => h) (Or.inl ⟨by rfl, ?_⟩) hHeld ?_
        rotate_left
        · intro w hSw
          try dsimp only at hSw
          go_simp
          try (with_reducible rfl)
        try simp only [Act.put, List.setIfInBounds_toArray, List.set_cons_zero, List.set_cons_succ]
        refine take_atU (i := 1) (d := some 34) (v := ?_) rfl rfl (by kernel_rfl) (by kernel_rfl) (by kernel_rfl) (fun _ _ _ h => h) (Or.inl ⟨by rfl, ?_⟩) hHeld ?_
        rotate_left
        · intro w hSw
          try dsimp only at hSw
          go_simp
          try (with_reducible rfl)
        try simp only [Act.put, List.setIfInBounds_toArray, List.set_cons_zero, List.set_cons_succ]
        refine take_atU (i := 2) (d := some 35) (v := ?_) rfl rfl (by kernel_rfl) (by kernel_rfl) (by kernel_rfl) (fun _ _ _ h => h) (Or.inl ⟨by rfl, ?_⟩) hHeld ?_
        rotate_left
        · intro w hSw
          try dsimp only at hSw
          go_simp
          try (with_reducible rfl)
        try simp only [Act.put, List.setIfInBounds_toArray, List.set_cons_zero, List.set_cons_succ]
        refine take_atU (i := 3) (d := some 36) (v := ?_) rfl rfl (by kernel_rfl) (by kernel_rfl) (by kernel_rfl) (fun _ _ _ h => h) (Or.inl ⟨by rfl, ?_⟩) hHeld ?_
        rotate_left
        · intro w hSw
          try dsimp only at hSw
          go_simp
          try (with_reducible rfl)
        try simp only [Act.put, List.setIfInBounds_toArray, List.set_cons_zero, List.set_cons_succ]
        refine take_atU (i := 4) (d := some 37) (v := ?_) rfl rfl (by kernel_rfl) (by kernel_rfl) (by kernel_rfl) (fun _ _ _ h => h) (Or.inl ⟨by rfl, ?_⟩) hHeld ?_
        rotate_left
        · intro w hSw
          try dsimp only at hSw
          go_simp
          try (with_reducible rfl)
        try simp only [Act.put, List.setIfInBounds_toArray, List.set_cons_zero, List.set_cons_succ]
        refine take_atU (i := 5) (d := some 38) (v := ?_) rfl rfl (by kernel_rfl) (by kernel_rfl) (by kernel_rfl) (fun _ _ _ h => h) (Or.inl ⟨by rfl, ?_⟩) hHeld ?_
        rotate_left
        · intro w hSw
          try dsimp only at hSw
          go_simp
          try (with_reducible rfl)
        try simp only [Act.put, List.setIfInBounds_toArray, List.set_cons_zero, List.set_cons_succ]
        refine wpAnyH_ready (rs := [6]) (by kernel_rfl) (by simp) ?_
        refine AllReadyH.cons rfl (fun K hK => ?_) AllReadyH.nil
        rw [if_pos (by rfl)]
        go_simp
        refine (whole_any _ _).mono ?_
        rintro e wa2 ⟨rfl, hka2⟩
        go_wp2_with fail
        refine hK.out _ _ (S8_of B7.out G70.out G71.out H57.out (((Kept.refl _).drew).trans hka2)) (fun hHeld => ?_)
        clear hK K
        try simp only [Act.put, List.setIfInBounds_toArray, List.set_cons_zero, List.set_cons_succ]
        refine wpAnyH_ready (rs := [7]) (by kernel_rfl) (by simp) ?_
        refine AllReadyH.cons rfl (fun K hK => ?_) AllReadyH.nil
        rw [if_pos (by rfl)]
        go_simp
        refine (T1.out _).mono ?_
        rintro e wb2 ⟨rfl, hkb2⟩
        exact ⟨rfl, rfl, BT7.out.trans (But.of_kept ((((Kept.refl _).drew).trans hka2).trans hkb2))⟩
      have hm := hmm
      rcases hst : lowF (a * m.2 + -m.1 * b) (b * m.2) with _ | r2
      · have hmv := vld_bd (mulF_vld hm)
        have T1 : RowKit.Hid (∀ W, Calls Tryz.prog 96 #[.agg #[.int .i64 p.1, .int .i64 p.2], .agg #[.int .i64 nn, .int .i64 1]] W fun e w' => e = .returned (.agg #[.int .i64 m.1, .int .i64 m.2]) ∧ Kept W w') := Lib.hid (fun W => times_some _ _ _ _ _ _ hpv ⟨by omega, by omega⟩ hm W)
        have T2 : RowKit.Hid (∀ W, Calls Tryz.prog 95 #[.agg #[.int .i64 a, .int .i64 b], .agg #[.int .i64 m.1, .int .i64 m.2]] W fun e w' => e = .panicked limPanic ∧ Kept W w') := Lib.hid (fun W => minus_none _ _ _ _ hav hmv hst W)
        clear hmm hm hst hpv hav hn0 hn1 hmv
        refine wp_region_held_drew (S := (fun w' => w'.cell? ⟨be, 0, none⟩ = some (.slice (some ⟨g, 0, none⟩) es.length c) ∧ w'.cell? ⟨g, k * 2, none⟩ = some (.int .i64 p.1) ∧ w'.cell? ⟨g, k * 2 + 1, none⟩ = some (.int .i64 p.2) ∧ w'.cell? ⟨w.heap.size + 1, 0, none⟩ = some (.int .i64 a) ∧ w'.cell? ⟨w.heap.size + 1, 1, none⟩ = some (.int .i64 b) ∧ Kept W7 w')) (by kernel_rfl) (S8_of B7.out G70.out G71.out H57.out ((Kept.refl _).drew)) (fun hHeld => ?_)
        refine take_atU (i := 0) (d := some 33) (v := ?_) rfl rfl (by kernel_rfl) (by kernel_rfl) (by kernel_rfl) (fun _ _ _ h => h) (Or.inl ⟨by rfl, ?_⟩) hHeld ?_
        rotate_left
        · intro w hSw
          try dsimp only at hSw
          go_simp
          try (with_reducible rfl)
        try simp only [Act.put, List.setIfInBounds_toArray, List.set_cons_zero, List.set_cons_succ]
        refine take_atU (i := 1) (d := some 34) (v := ?_) rfl rfl (by kernel_rfl) (by kernel_rfl) (by kernel_rfl) (fun _ _ _ h => h) (Or.inl ⟨by rfl, ?_⟩) hHeld ?_
        rotate_left
        · intro w hSw
          try dsimp only at hSw
          go_simp
          try (with_reducible rfl)
        try simp only [Act.put, List.setIfInBounds_toArray, List.set_cons_zero, List.set_cons_succ]
        refine take_atU (i := 2) (d := some 35) (v := ?_) rfl rfl (by kernel_rfl) (by kernel_rfl) (by kernel_rfl) (fun _ _ _ h => h) (Or.inl ⟨by rfl, ?_⟩) hHeld ?_
        rotate_left
        · intro w hSw
          try dsimp only at hSw
          go_simp
          try (with_reducible rfl)
        try simp only [Act.put, List.setIfInBounds_toArray, List.set_cons_zero, List.set_cons_succ]
        refine take_atU (i := 3) (d := some 36) (v := ?_) rfl rfl (by kernel_rfl) (by kernel_rfl) (by kernel_rfl) (fun _ _ _ h => h) (Or.inl ⟨by rfl, ?_⟩) hHeld ?_
        rotate_left
        · intro w hSw
          try dsimp only at hSw
          go_simp
          try (with_reducible rfl)
        try simp only [Act.put, List.setIfInBounds_toArray, List.set_cons_zero, List.set_cons_succ]
        refine take_atU (i := 4) (d := some 37) (v := ?_) rfl rfl (by kernel_rfl) (by kernel_rfl) (by kernel_rfl) (fun _ _ _ h => h) (Or.inl ⟨by rfl, ?_⟩) hHeld ?_
        rotate_left
        · intro w hSw
          try dsimp only at hSw
          go_simp
          try (with_reducible rfl)
        try simp only [Act.put, List.setIfInBounds_toArray, List.set_cons_zero, List.set_cons_succ]
        refine take_atU (i := 5) (d := some 38) (v := ?_) rfl rfl (by kernel_rfl) (by kernel_rfl) (by kernel_rfl) (fun _ _ _ h => h) (Or.inl ⟨by rfl, ?_⟩) hHeld ?_
        rotate_left
        · intro w hSw
          try dsimp only at hSw
          go_simp
          try (with_reducible rfl)
        try simp only [Act.put, List.setIfInBounds_toArray, List.set_cons_zero, List.set_cons_succ]
        refine wpAnyH_ready (rs := [6]) (by kernel_rfl) (by simp) ?_
        refine AllReadyH.cons rfl (fun K hK => ?_) AllReadyH.nil
        rw [if_pos (by rfl)]
        go_simp
        refine (whole_any _ _).mono ?_
        rintro e wa2 ⟨rfl, hka2⟩
        go_wp2_with fail
        refine hK.out _ _ (S8_of B7.out G70.out G71.out H57.out (((Kept.refl _).drew).trans hka2)) (fun hHeld => ?_)
        clear hK K
        try simp only [Act.put, List.setIfInBounds_toArray, List.set_cons_zero, List.set_cons_succ]
        refine wpAnyH_ready (rs := [7]) (by kernel_rfl) (by simp) ?_
        refine AllReadyH.cons rfl (fun K hK => ?_) AllReadyH.nil
        rw [if_pos (by rfl)]
        go_simp
        refine (T1.out _).mono ?_
        rintro e wb2 ⟨rfl, hkb2⟩
        go_wp2_with fail
        refine hK.out _ _ (S8_of B7.out G70.out G71.out H57.out ((((Kept.refl _).drew).trans hka2).trans hkb2)) (fun hHeld => ?_)
        clear hK K
        try simp only [Act.put, List.setIfInBounds_toArray, List.set_cons_zero, List.set_cons_succ]
        refine wpAnyH_ready (rs := [8]) (by kernel_rfl) (by simp) ?_
        refine AllReadyH.cons rfl (fun K hK => ?_) AllReadyH.nil
        rw [if_pos (by rfl)]
        go_simp
        refine (T2.out _).mono ?_
        rintro e wd2 ⟨rfl, hkd2⟩
        exact ⟨rfl, rfl, BT7.out.trans (But.of_kept (((((Kept.refl _).drew).trans hka2).trans hkb2).trans hkd2))⟩
      have hmv := vld_bd (mulF_vld hm)
      have HR2 : RowKit.Hid (fillS (sn, sd) ((es.zip hs).take (k + 1)) = some (r2, fo ++ [⟨hd.sort, nn⟩])) := Lib.hid (by rw [HSN.out, hm]; dsimp only; rw [hst])
      have T1 : RowKit.Hid (∀ W, Calls Tryz.prog 96 #[.agg #[.int .i64 p.1, .int .i64 p.2], .agg #[.int .i64 nn, .int .i64 1]] W fun e w' => e = .returned (.agg #[.int .i64 m.1, .int .i64 m.2]) ∧ Kept W w') := Lib.hid (fun W => times_some _ _ _ _ _ _ hpv ⟨by omega, by omega⟩ hm W)
      have T2 : RowKit.Hid (∀ W, Calls Tryz.prog 95 #[.agg #[.int .i64 a, .int .i64 b], .agg #[.int .i64 m.1, .int .i64 m.2]] W fun e w' => e = .returned (.agg #[.int .i64 r2.1, .int .i64 r2.2]) ∧ Kept W w') := Lib.hid (fun W => minus_some _ _ _ _ _ _ hav hmv hst W)
      clear hmm hm hst hpv hav hn0 hn1 hmv
      go_region_with (first
          | (go_at_call 100; refine (whole_any _ _).mono ?_; rintro e wb ⟨rfl, hkb⟩; obtain ⟨d0, d1, d2, d3, d4, d5, d6⟩ := S7_of B7.out G70.out G71.out H57.out (((Kept.refl _).drew).trans hkb))
          | (go_at_call 96; refine (T1.out _).mono ?_; rintro e wc ⟨rfl, hkc⟩; obtain ⟨f0, f1, f2, f3, f4, f5, f6⟩ := S7_of B7.out G70.out G71.out H57.out ((((Kept.refl _).drew).trans hkb).trans hkc))
          | (go_at_call 95; refine (T2.out _).mono ?_; rintro e wd ⟨rfl, hkd⟩; obtain ⟨h0, h1, h2, h3, h4, h5, h6⟩ := S7_of B7.out G70.out G71.out H57.out (((((Kept.refl _).drew).trans hkb).trans hkc).trans hkd)))
      all_goals
        go_wp2
        go_roundw
        case rel =>
          have KK : Kept W7 wd := ((((Kept.refl _).drew).trans hkb).trans hkc).trans hkd
          refine ⟨k + 1, r2.1, r2.2, fo ++ [⟨hd.sort, nn⟩], .slice (some ⟨g6, 0, none⟩) (k + 1) cap6, by omega, by go_num, HR2.out, by simp [HFo.out], ((H57.out.kept KK).put (j := 0) (by simp) _).put (j := 1) (by simp) _, ((H47.out.kept KK).far (by omega) _).far (by omega) _, ((HF7.out.kept KK).far (by omega) _).far (by omega) _, ?_, ?_, ?_⟩
          · rw [hdFlat_snoc]
            exact own_set (own_set (own_kept O7.out KK) _ _ _ (by omega)) _ _ _ (by omega)
          · exact ((BT7.out.trans (But.of_kept KK)).set_new _ _ _ (by omega)).set_new _ _ _ (by omega)
          · have := KK.size
            simp
            omega
        case measure => simp [intOf]; omega
    · obtain rfl : k = hn := by omega
      have hz : (es.zip hs).length = k := by rw [List.length_zip, HLn.out, HH.out.1]; omega
      have hu2 := HUk.out
      rw [List.take_of_length_le (by rw [hz]; exact Nat.le_refl _), HR.out] at hu2
      cases hu2

end Go.Proofs.YtcjpecdnenemaaaGreatDoor
