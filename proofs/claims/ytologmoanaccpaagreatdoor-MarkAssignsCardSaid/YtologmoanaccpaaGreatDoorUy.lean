/-
  the reference's Assign 50: the walk
-/
import Derived.Test.YtologmoanaccpaaGreatDoorUR
namespace Go.Proofs.YtologmoanaccpaaGreatDoor
set_option linter.all false
open Go.RowKit Go.Shelf

theorem sla_grown {α : Type} {enc : α → List Value} {k : Nat} {ok : α → Prop} {w w' : World} {A : Option Addr} {n c : Nat} {xs : List α} {row : Option Nat} (h : SlA enc k ok w A n c xs) (hg : w.grownBy w' row) (hne : 0 < n → ∀ b off, A = some ⟨b, off, none⟩ → row ≠ some b) : SlA enc k ok w' A n c xs :=
  ⟨h.1, h.2.1, h.2.2.1, h.2.2.2.1, fun h0 => by
    obtain ⟨b, off, e, ht⟩ := h.2.2.2.2 h0
    exact ⟨b, off, e, fun i x hx j v hv => by
      have := ht i x hx j v hv
      exact (cell_heap (hg.block b (cell_lt this) (fun e' => hne h0 b off e e'.symm))).trans this⟩⟩
theorem fitsN_drop (ms : List Mk) (fs : List Fd) (day : Int) (found : List Sg) (cls : List Cl) (i : Nat) : (fitsN ms fs day found cls).drop i = fitsN ms fs day (found.drop i) cls := by
  unfold fitsN
  rw [List.map_drop]
theorem first_of {A B C D : Option Addr} {n c m d p q u v : Nat} {ms : List Mk} {fs : List Fd} {day : Int} {found : List Sg} {cls : List Cl} {w : World} (hs : SmA w A n c ms B m d fs) (hfo : SlA sgV 6 Sg.ok w C p q found) (hcl : SlA clC 2 Cl.ok w D u v cls) (hE : EnvT w) (h0 : chE ms fs day found cls = 0) : (metR ms fs day found cls = true → ∃ ow, FirstA (fitsN ms fs day found cls) (clN cls) (wtL cls) ow) ∧ (metR ms fs day found cls = false → ShA (fitsN ms fs day found cls) (clN cls) (wtL cls)) := by
  have g := GoodS.of h0 hs.1.2.2.2.1 hs.2.2.2.2.1 hfo.2.2.2.1
  rcases hall_at hs hfo hcl hE h0 with ⟨ow, h1⟩ | h1
  · refine ⟨fun _ => ⟨ow, h1⟩, fun hf => ?_⟩
    have := (metR_first hs hfo hcl hE h0).2 ⟨ow, h1.1⟩
    rw [hf] at this
    cases this
  · refine ⟨fun ht => ?_, fun _ => h1⟩
    rw [metR_iff g] at ht
    obtain ⟨x, hx⟩ := sh_some h1 (clN_41 g.hc) (clN_0 g.hc) fitsN_cl
    rw [ht x] at hx
    cases hx
/-- the state of the outer loop, with the word that the row of results is not that of the claims -/
structure AsJ (w W0 : World) (ms : List Mk) (fs : List Fd) (day : Int) (found : List Sg) (cls : List Cl) (ow : List Int) (i : Nat) (u cap : Nat) (L : List Cl) (DA : Option Addr) (o : Value) (W : World) : Prop where
  (I : AsI w W0 ms fs day found cls ow i u cap L DA o W) (ap : ∀ g, o.ownBlock = some g → 0 < u → ∀ b off, DA = some ⟨b, off, none⟩ → g ≠ b)
theorem sla_lt {w : World} {A : Option Addr} {n c : Nat} {xs : List Cl} (h : SlA clC 2 Cl.ok w A n c xs) (h0 : 0 < n) {b off : Nat} (e : A = some ⟨b, off, none⟩) : b < w.heap.size := by
  obtain ⟨b', off', e', ht⟩ := h.2.2.2.2 h0
  rw [e] at e'
  cases e'
  obtain ⟨x, hx⟩ : ∃ x, xs[0]? = some x := ⟨_, List.getElem?_eq_getElem (by rw [h.1]; exact h0)⟩
  exact cell_lt (ht 0 x hx 0 _ rfl)
set_option maxRecDepth 100000 in
set_option maxHeartbeats 25600000 in
theorem rassign_any (A B C D : Option Addr) (n c m d p q u v : Nat) (ms : List Mk) (fs : List Fd) (day : Int) (found : List Sg) (cls : List Cl) (w : World) (hs : SmA w A n c ms B m d fs) (hfo : SlA sgV 6 Sg.ok w C p q found) (hcl : SlA clC 2 Cl.ok w D u v cls) (hEv : EnvT w) :
    Calls Tryz.prog 50 #[.agg #[.slice A n c, .slice B m d], .int .i64 day, .slice C p q, .slice D u v] w (RaP w ms fs day found cls) := by
  obtain ⟨W0, hW0⟩ : ∃ W0, W0 = w.alloc (.cells #[.slice A n c, .slice B m d] 25) := ⟨_, rfl⟩
  have K0 : RowKit.Hid (Kept w W0) := Lib.hid (by rw [hW0]; exact (Kept.refl _).alloc _)
  have R0 : RowKit.Hid (RowC W0 w.heap.size [.slice A n c, .slice B m d]) := Lib.hid (by rw [hW0]; exact RowC.new w [.slice A n c, .slice B m d] 25)
  obtain ⟨i0, hi0, hz0, hz1, hz2⟩ := info_parts info3
  have HW := Lib.hid hW0
  have HS := Lib.hid (hs.kept K0.out)
  have HFO := Lib.hid (hfo.kept K0.out)
  have HCL := Lib.hid (hcl.kept K0.out)
  have HEV := Lib.hid (hEv.kept K0.out)
  have HFN := Lib.hid hfo.1
  have HCN := Lib.hid hcl.1
  obtain ⟨E, hE⟩ : ∃ E, chE ms fs day found cls = E := ⟨_, rfl⟩
  have HBG : RowKit.Hid (∀ W, Kept W0 W → Calls Tryz.prog 109 #[.agg #[.slice A n c, .slice B m d], .int .i64 day, .slice none 0 0, .slice C p q, .slice D u v] W fun e w' => e = .returned (.int .i64 E) ∧ Kept W w') := Lib.hid (fun W hW => by rw [← hE]; have h := rbegin_any A B C D none n c m d p q u v 0 0 ms fs day [] found cls W (HS.out.kept hW) (IntA.nil W) (by omega) (HFO.out.kept hW) (HCL.out.kept hW); rw [bgE_nil] at h; exact h)
  have HE := Lib.hid hE
  clear hE
  have hpc := hfo.2.1
  have hpm := hfo.2.2.1
  have huc := hcl.2.1
  have hum := hcl.2.2.1
  have a0 := (R0.out 0 _ rfl).1
  have a1 := (R0.out 1 _ rfl).1
  have la := cell_lt a0
  clear hW0 hs hfo hcl hEv
  go_enter Tryz.func50, Tryz.ntmps50
  go_upto_region 1 with (fail)
  rw [← HW.out]
  go_wp2_with fail
  refine (HBG.out _ (Kept.refl _)).mono ?_
  rintro e w1 ⟨rfl, hk1⟩
  have K1 := Lib.hid hk1
  clear hk1 a0 a1 la
  by_cases h0 : E = 0
  rotate_left
  · have h1 : (E != 0) = true := by simpa using h0
    have H0 := Lib.hid h0
    clear h0
    go_wp2_with fail
    go_ret3
    exact RaP.no E HE.out H0.out (by rfl) (K0.out.trans K1.out)
  subst h0
  obtain ⟨hp60, hu10, hcb⟩ := ch_sizes HE.out
  have hg := GoodS.of HE.out HS.out.1.2.2.2.1 HS.out.2.2.2.2.1 HFO.out.2.2.2.1
  have HG := Lib.hid hg
  rw [HFN.out] at hp60
  rw [HCN.out] at hu10
  have HMT : RowKit.Hid (∀ (C' : Option Addr) (p' q' : Nat) (fd : List Sg) (D' : Option Addr) (u' v' : Nat) (L : List Cl) (W : World), Kept W0 W → SlA sgV 6 Sg.ok W C' p' q' fd → SlA clC 2 Cl.ok W D' u' v' L → u' ≤ 10 → p' ≤ 60 → (∀ c ∈ L, claimB c = true) → Calls Tryz.prog 116 #[.agg #[.slice A n c, .slice B m d], .int .i64 day, .slice C' p' q', .slice D' u' v'] W fun e w' => e = .returned (.bool (metR ms fs day fd L)) ∧ Kept W w') := Lib.hid (fun C' p' q' fd D' u' v' L W hW h1 h2 h3 h4 h5 => rmet_any A B C' D' n c m d p' q' u' v' ms fs day fd L h3 h4 (fun x hx => cl_num (h5 x hx)) W (HS.out.kept hW) h1 h2)
  have HFT0 : RowKit.Hid (∀ (s : Sg) (o : Int) W, Kept W0 W → Calls Tryz.prog 94 #[.agg #[.slice A n c, .slice B m d], .int .i64 day, .agg #[.int .u8 s.s0, .int .u8 s.s1, .int .u8 s.s2, .int .u8 s.s3, .int .u8 s.s4, .int .u8 s.s5], .int .i64 o] W fun e w' => e = .returned (.bool (fitR ms fs day s o)) ∧ Kept W w') := Lib.hid (fun s o W hW => rfits_any A B n c m d ms fs day o s W (HS.out.kept hW))
  have HCB := Lib.hid hcb
  clear hg hcb
  obtain ⟨mb, hmb⟩ : ∃ b, metR ms fs day found cls = b := ⟨_, rfl⟩
  have HM0 := Lib.hid (HMT.out C p q found D u v cls w1 K1.out (HFO.out.kept K1.out) (HCL.out.kept K1.out) hu10 hp60 HCB.out)
  rw [hmb] at HM0
  have HMB := Lib.hid hmb
  have a0 := ((R0.out.kept K1.out) 0 _ rfl).1
  have a1 := ((R0.out.kept K1.out) 1 _ rfl).1
  have la := cell_lt a0
  clear hmb
  go_wp2_with fail
  refine HM0.out.mono ?_
  rintro e w2 ⟨rfl, hk2⟩
  have K2 := Lib.hid (K1.out.trans hk2)
  clear hk2 a0 a1 la
  cases mb with
  | false =>
    have HF := Lib.hid ((first_of HS.out HFO.out HCL.out HEV.out HE.out).2 HMB.out)
    go_wp2_with fail
    go_ret3
    exact ⟨.inr ⟨HE.out, .inl ⟨HF.out, by rfl⟩⟩, K0.out.trans K2.out⟩
  | true =>
    obtain ⟨ow, how⟩ := (first_of HS.out HFO.out HCL.out HEV.out HE.out).1 HMB.out
    have HOW := Lib.hid how
    have howl : ow.length = p := by
      have := how.1.1.1
      rw [← HFN.out]
      simpa [fitsN] using this
    have HOL := Lib.hid howl
    have HJ0 : RowKit.Hid (AsJ w W0 ms fs day found cls ow 0 u v cls D (.slice none 0 0) w2) := Lib.hid ⟨⟨HCL.out.kept K2.out, ⟨rfl, HCB.out⟩, World.ownsRow_nil _ _ _ _, how, K2.out⟩, fun g hg => by cases hg⟩
    clear how howl
    go_wp2_with fail
    go_loopw [12, 13, 14, 15, 16, 17, 18] (fun o l i _ _ _ _ wr => ∃ (j : Nat) (DA : Option Addr) (cap : Nat) (L : List Cl), j ≤ p ∧ i = .int .i64 j ∧ l = .slice DA u cap ∧ AsJ w W0 ms fs day found cls ow j u cap L DA o wr) (fun _ _ i _ _ _ _ _ => p - (intOf i).toNat)
    case atStart => exact ⟨0, D, v, cls, by omega, by first | rfl | go_num, rfl, HJ0.out⟩
    case round =>
      obtain ⟨i, DA, cap, L, hi, rfl, rfl, hJ⟩ := hrel
      have HJ := Lib.hid hJ
      clear hJ
      obtain ⟨Wo, hWo⟩ : ∃ Wo, Wo = wr := ⟨_, rfl⟩
      rw [← hWo] at HJ ⊢
      clear hWo
      by_cases hlt : i < p
      · obtain ⟨s, hs⟩ : ∃ s, found[i]? = some s := ⟨_, List.getElem?_eq_getElem (by rw [HFN.out]; exact hlt)⟩
        obtain ⟨y, t, hyt⟩ : ∃ y t, ow.drop i = y :: t := ⟨_, _, List.drop_eq_getElem_cons (by rw [HOL.out]; exact hlt)⟩
        have hz := HJ.out.I.zero (W' := Wo) hyt hs
        have HYT := Lib.hid hyt
        have HHS := Lib.hid hs
        have HZ := Lib.hid hz
        clear hyt hz
        obtain ⟨fb, fo, hC, htc⟩ := HFO.out.2.2.2.2 (by omega)
        subst hC
        have HSC : RowKit.Hid (∀ (j : Nat) (v : Value), (sgV s)[j]? = some v → W0.cell? ⟨fb, fo + i * 6 + j, none⟩ = some v) := Lib.hid (fun j v hv => htc i s hs j v hv)
        clear htc hs
        have hi0' : (0 : Int) ≤ (i : Int) := by omega
        have hi1' : (i : Int) < (p : Int) := by omega
        have hi1p : (i : Int) + 1 ≤ (p : Int) := by omega
        have hi1q : (i : Int) + 1 ≤ (q : Int) := by omega
        obtain ⟨RC, p2, q2, hrun, hrs, hp2⟩ : ∃ RC p2 q2, (∀ W, (Instr.sliceAt 62 (.slice (some ⟨fb, fo, none⟩) p q) (some (.int .i64 ((i : Int) + 1))) none none).run Tryz.prog W = .ok (.slice RC p2 q2) W) ∧ SlA sgV 6 Sg.ok W0 RC p2 q2 (found.drop (i + 1)) ∧ p2 ≤ 60 := by
          by_cases hcap : q = i + 1
          · obtain rfl : p = i + 1 := by omega
            subst hcap
            exact ⟨some ⟨fb, fo, none⟩, i + 1 - (i + 1), i + 1 - (i + 1), fun W => by (go_simp; intro h; omega), ⟨by rw [List.length_drop, HFN.out], by omega, by omega, fun x hx => HFO.out.2.2.2.1 x (List.mem_of_mem_drop hx), fun h0 => by omega⟩, by omega⟩
          · exact ⟨some ⟨fb, fo + (i + 1) * 6, none⟩, p - (i + 1), q - (i + 1), fun W => by (go_simp; intro h; omega), sla_drop HFO.out (by omega), by omega⟩
        have HRS := Lib.hid hrs
        have hrl : (found.drop (i + 1)).length ≤ found.length := by rw [List.length_drop]; omega
        have hrm : ∀ s ∈ found.drop (i + 1), s ∈ found := fun s h => List.mem_of_mem_drop h
        have HRL := Lib.hid hrl
        have HRM := Lib.hid hrm
        obtain ⟨mb, hmb⟩ : ∃ b, metR ms fs day (found.drop (i + 1)) L = b := ⟨_, rfl⟩
        have HM1 := Lib.hid (HMT.out RC p2 q2 (found.drop (i + 1)) DA u cap L Wo HJ.out.I.kept (hrs.kept HJ.out.I.kept) HJ.out.I.sl hu10 hp2 HJ.out.I.lf.cl)
        rw [hmb] at HM1
        have HMB1 := Lib.hid hmb
        have HFI : RowKit.Hid (FirstB ((ownD ms fs day s &&& clN cls) :: fitsN ms fs day (found.drop (i + 1)) cls) (wc (clN cls) (wtL L)) (y :: t)) := Lib.hid (by
          have h := HJ.out.I.first
          rw [HZ.out.1, HYT.out] at h
          exact h)
        have a0 := ((R0.out.kept HJ.out.I.kept) 0 _ rfl).1
        have a1 := ((R0.out.kept HJ.out.I.kept) 1 _ rfl).1
        have la := cell_lt a0
        clear hmb hrs hrl hrm
        go_wp2_with fail
        try rw [hrun]
        try go_wp2_with fail
        refine HM1.out.mono ?_
        rintro e w3 ⟨rfl, hk3⟩
        have K3 := Lib.hid (HJ.out.I.kept.trans hk3)
        have HSL3 := Lib.hid (HJ.out.I.sl.kept hk3)
        have HO3 := Lib.hid (own_kept HJ.out.I.out hk3)
        clear hk3 a0 a1 la hrun
        cases mb with
        | true =>
          obtain ⟨rfl, hft⟩ := firstB_zero HFI.out (by
            obtain ⟨ow', h⟩ := (metR_all HS.out HEV.out (fun s h => HG.out.hs s (HRM.out s h)) (HJ.out.I.lf.chE HE.out HRL.out HRM.out)).1 HMB1.out
            rw [metB_A, HJ.out.I.lf.clN] at h
            exact ⟨ow', by rw [show fitsN ms fs day (found.drop (i + 1)) cls = fitsN ms fs day (found.drop (i + 1)) L by unfold fitsN; rw [HJ.out.I.lf.clN]]; exact h⟩)
          have HFT := Lib.hid hft
          clear hft
          have HNW := Lib.hid (news_of (W := w3) (cs := inC 0) (t := 3) (m := w3.heap.size) rfl)
          have HA3 : RowKit.Hid (i + 1 ≤ maxLen) := Lib.hid (by unfold maxLen; omega)
          have HA4 : RowKit.Hid ((i + 1) * 8 ≤ 140737488355328) := Lib.hid (by omega)
          have HB1 : RowKit.Hid (W0.heap.size ≤ (w3.alloc (.cells #[.int .i64 0] 3)).heap.size) := Lib.hid (by have := K3.out.size; simp; omega)
          go_wp2_with (at_builtin; refine wpList_append_lies _ rfl (.tmp 96) (.tmp 98) 43 rfl W0.heap.size 3 i0 _ 1 8 Tryz.underlying43 hi0 hz0 hz1 hz2 rfl (by decide) _ i _ rfl (own_kept HO3.out ((Kept.refl _).alloc _)) ⟨w3.heap.size, 0, none⟩ 1 1 (inC 0) rfl rfl HNW.out (fun u hu => by simp [inC] at hu; subst hu; rfl) (by decide) HA3.out HA4.out HB1.out _ rfl ?_; intro g' cap' w6 hown6 hgrow6 hat6 hlt6)
          have HO6 := Lib.hid hown6
          have HK6 := Lib.hid ((K3.out.alloc _).grown hgrow6 (fun r hr => (HO3.out.lt r hr).1))
          have HSL6 := Lib.hid (sla_grown (HSL3.out.kept ((Kept.refl _).alloc _)) hgrow6 (fun h0 b off e e2 => HJ.out.ap _ e2 h0 b off e rfl))
          have HAP6 : RowKit.Hid (0 < u → ∀ b off, DA = some ⟨b, off, none⟩ → g' ≠ b) := Lib.hid (fun h0 b off e => by
            rcases hat6 with h | h
            · exact HJ.out.ap _ h h0 b off e
            · have := sla_lt HSL3.out h0 e
              rw [h]
              simp
              omega)
          clear hown6 hgrow6 hat6 hlt6
          go_roundw
          case rel =>
            refine ⟨i + 1, DA, cap, L, by omega, by go_num, rfl, ⟨⟨HSL6.out, HJ.out.I.lf, ?_, ?_, HK6.out⟩, fun g hg h0 b off e => by simp [Value.ownBlock] at hg; rw [← hg]; exact HAP6.out h0 b off e⟩⟩
            · rw [HZ.out.2.2.1, List.flatMap_append, List.flatMap_singleton]
              exact HO6.out
            · rw [fitsN_drop, ← HZ.out.2.1]
              exact HFT.out
          case measure => simp [intOf]; omega
        | false =>
          obtain ⟨⟨hy1, hy2⟩, hft, hsd⟩ := srv_dec HS.out HEV.out HG.out HE.out HJ.out.I.lf (List.mem_of_getElem? HHS.out) HRL.out HRM.out HFI.out HMB1.out
          obtain ⟨Y, rfl⟩ : ∃ Y : Nat, y = (Y : Int) := ⟨y.toNat, by omega⟩
          have HSD := Lib.hid hsd
          obtain ⟨kk, xx, hck, hxx, hxp, hlf, hfb⟩ := first_less (found := found) HJ.out.I.lf HG.out.hn (by rw [hsd (Y : Int) hy1 (Int.le_refl _)]; simp) hft
          have HCK : RowKit.Hid (cmV L (Y : Int) = (kk : Int)) := Lib.hid (by unfold cmV; rw [hck])
          have HXX := Lib.hid hxx
          have HLF := Lib.hid hlf
          have HFB := Lib.hid hfb
          have HXP := Lib.hid hxp
          have hLu : L.length = u := HSL3.out.1
          have HLU := Lib.hid hLu
          clear hft hsd hck hxx hlf hfb hxp hLu
          go_wp2_with fail
          go_loopw [15, 17, 18] (fun o nx _ wr => ∃ z : Nat, nx = .int .i64 ((z : Int) + 1) ∧ ((z < Y ∧ o = .int .i64 0) ∨ (z = Y ∧ o = .int .i64 (Y : Int))) ∧ Kept w3 wr) (fun _ nx _ _ => 41 - (intOf nx).toNat)
          case atStart => exact ⟨0, by first | rfl | go_num, .inl ⟨by omega, rfl⟩, Kept.refl _⟩
          case round =>
            obtain ⟨z, rfl, hz, hkr⟩ := hrel
            have HKR := Lib.hid hkr
            clear hkr
            rcases hz with ⟨hzy, rfl⟩ | ⟨rfl, rfl⟩
            · have HV := Lib.hid (HSD.out ((z : Int) + 1) (by omega) (by omega))
              have hz40 : (z : Int) + 1 ≤ 40 := by omega
              have HCM := Lib.hid (claimed_any DA u cap L ((z : Int) + 1) wr (HSL3.out.kept HKR.out))
              obtain ⟨r, hr⟩ : ∃ r, cmX L ((z : Int) + 1) = r := ⟨_, rfl⟩
              have kd := (Kept.refl wr).drew
              cases r with
              | none =>
                have HCV : RowKit.Hid (cmV L ((z : Int) + 1) = -1) := Lib.hid (by unfold cmV; rw [hr])
                have HVD : RowKit.Hid (z + 1 ≠ Y) := Lib.hid (by
                  have h := HV.out
                  unfold srvB at h
                  rw [hr] at h
                  simp only at h
                  have := of_decide_eq_false h.symm
                  omega)
                rw [HCV.out] at HCM
                clear hr
                go_wp2_with fail
                refine HCM.out.mono ?_
                rintro e w4 ⟨rfl, hw4⟩
                rw [hw4]
                clear hw4 w4
                go_upto_region 18 with (fail)
                have SC : RowKit.Hid (∀ W, Kept wr W → W.cell? ⟨w.heap.size, 0, none⟩ = some (.slice A n c) ∧ W.cell? ⟨w.heap.size, 1, none⟩ = some (.slice B m d) ∧ W.cell? ⟨fb, fo + i * 6, none⟩ = some (.int .u8 s.s0) ∧ W.cell? ⟨fb, fo + i * 6 + 1, none⟩ = some (.int .u8 s.s1) ∧ W.cell? ⟨fb, fo + i * 6 + 2, none⟩ = some (.int .u8 s.s2) ∧ W.cell? ⟨fb, fo + i * 6 + 3, none⟩ = some (.int .u8 s.s3) ∧ W.cell? ⟨fb, fo + i * 6 + 4, none⟩ = some (.int .u8 s.s4) ∧ W.cell? ⟨fb, fo + i * 6 + 5, none⟩ = some (.int .u8 s.s5) ∧ Kept wr W) := Lib.hid (fun W hW => by
                  have hK := K3.out.trans (HKR.out.trans hW)
                  refine ⟨(R0.out.kept hK 0 _ rfl).1, (R0.out.kept hK 1 _ rfl).1, ?c0, ?c1, ?c2, ?c3, ?c4, ?c5, hW⟩
                  case c0 =>
                    have := HSC.out 0 _ rfl
                    exact (hK.cells _ _ (cell_lt this)).trans this
                  case c1 =>
                    have := HSC.out 1 _ rfl
                    exact (hK.cells _ _ (cell_lt this)).trans this
                  case c2 =>
                    have := HSC.out 2 _ rfl
                    exact (hK.cells _ _ (cell_lt this)).trans this
                  case c3 =>
                    have := HSC.out 3 _ rfl
                    exact (hK.cells _ _ (cell_lt this)).trans this
                  case c4 =>
                    have := HSC.out 4 _ rfl
                    exact (hK.cells _ _ (cell_lt this)).trans this
                  case c5 =>
                    have := HSC.out 5 _ rfl
                    exact (hK.cells _ _ (cell_lt this)).trans this
                  )
                have q0 := (SC.out _ (Kept.refl _)).1
                have lq := cell_lt q0
                have q2 := (SC.out _ (Kept.refl _)).2.2.1
                have lq2 := cell_lt q2
                clear q0 q2
                refine wp_region_held_drew (S := fun W => W.cell? ⟨w.heap.size, 0, none⟩ = some (.slice A n c) ∧ W.cell? ⟨w.heap.size, 1, none⟩ = some (.slice B m d) ∧ W.cell? ⟨fb, fo + i * 6, none⟩ = some (.int .u8 s.s0) ∧ W.cell? ⟨fb, fo + i * 6 + 1, none⟩ = some (.int .u8 s.s1) ∧ W.cell? ⟨fb, fo + i * 6 + 2, none⟩ = some (.int .u8 s.s2) ∧ W.cell? ⟨fb, fo + i * 6 + 3, none⟩ = some (.int .u8 s.s3) ∧ W.cell? ⟨fb, fo + i * 6 + 4, none⟩ = some (.int .u8 s.s4) ∧ W.cell? ⟨fb, fo + i * 6 + 5, none⟩ = some (.int .u8 s.s5) ∧ Kept wr W) (by kernel_rfl) (SC.out _ kd) (fun hHeld => ?_)
                refine take_at (i := 0) (d := some 61) (v := ?_) rfl rfl (by kernel_rfl) (by kernel_rfl) (by kernel_rfl) (fun _ _ _ h => h) (Or.inl ⟨by rfl, ?_⟩) hHeld ?_
                rotate_left
                · intro w hSw
                  try dsimp only at hSw
                  go_simp
                  try (with_reducible rfl)
                try simp only [Act.put, List.setIfInBounds_toArray, List.set_cons_zero, List.set_cons_succ]
                refine take_at (i := 1) (d := some 62) (v := ?_) rfl rfl (by kernel_rfl) (by kernel_rfl) (by kernel_rfl) (fun _ _ _ h => h) (Or.inl ⟨by rfl, ?_⟩) hHeld ?_
                rotate_left
                · intro w hSw
                  try dsimp only at hSw
                  go_simp
                  try (with_reducible rfl)
                try simp only [Act.put, List.setIfInBounds_toArray, List.set_cons_zero, List.set_cons_succ]
                refine take_at (i := 2) (d := some 63) (v := ?_) rfl rfl (by kernel_rfl) (by kernel_rfl) (by kernel_rfl) (fun _ _ _ h => h) (Or.inl ⟨by rfl, ?_⟩) hHeld ?_
                rotate_left
                · intro w hSw
                  try dsimp only at hSw
                  go_simp
                  try (with_reducible rfl)
                try simp only [Act.put, List.setIfInBounds_toArray, List.set_cons_zero, List.set_cons_succ]
                refine take_at (i := 3) (d := some 64) (v := undef) rfl rfl (by kernel_rfl) (by kernel_rfl) (by kernel_rfl) (fun _ _ _ h => h) (Or.inr ⟨by rfl, rfl⟩) hHeld ?_
                try simp only [Act.put, List.setIfInBounds_toArray, List.set_cons_zero, List.set_cons_succ]
                refine take_at (i := 4) (d := some 65) (v := undef) rfl rfl (by kernel_rfl) (by kernel_rfl) (by kernel_rfl) (fun _ _ _ h => h) (Or.inr ⟨by rfl, rfl⟩) hHeld ?_
                try simp only [Act.put, List.setIfInBounds_toArray, List.set_cons_zero, List.set_cons_succ]
                refine take_at (i := 5) (d := some 66) (v := undef) rfl rfl (by kernel_rfl) (by kernel_rfl) (by kernel_rfl) (fun _ _ _ h => h) (Or.inr ⟨by rfl, rfl⟩) hHeld ?_
                try simp only [Act.put, List.setIfInBounds_toArray, List.set_cons_zero, List.set_cons_succ]
                refine take_at (i := 6) (d := some 67) (v := undef) rfl rfl (by kernel_rfl) (by kernel_rfl) (by kernel_rfl) (fun _ _ _ h => h) (Or.inr ⟨by rfl, rfl⟩) hHeld ?_
                try simp only [Act.put, List.setIfInBounds_toArray, List.set_cons_zero, List.set_cons_succ]
                refine take_at (i := 7) (d := some 68) (v := undef) rfl rfl (by kernel_rfl) (by kernel_rfl) (by kernel_rfl) (fun _ _ _ h => h) (Or.inr ⟨by rfl, rfl⟩) hHeld ?_
                try simp only [Act.put, List.setIfInBounds_toArray, List.set_cons_zero, List.set_cons_succ]
                refine take_at (i := 8) (d := some 69) (v := undef) rfl rfl (by kernel_rfl) (by kernel_rfl) (by kernel_rfl) (fun _ _ _ h => h) (Or.inr ⟨by rfl, rfl⟩) hHeld ?_
                try simp only [Act.put, List.setIfInBounds_toArray, List.set_cons_zero, List.set_cons_succ]
                refine take_at (i := 9) (d := some 70) (v := ?_) rfl rfl (by kernel_rfl) (by kernel_rfl) (by kernel_rfl) (fun _ _ _ h => h) (Or.inl ⟨by rfl, ?_⟩) hHeld ?_
                rotate_left
                · intro w hSw
                  try dsimp only at hSw
                  go_simp
                  try (with_reducible rfl)
                try simp only [Act.put, List.setIfInBounds_toArray, List.set_cons_zero, List.set_cons_succ]
                refine take_at (i := 10) (d := some 71) (v := ?_) rfl rfl (by kernel_rfl) (by kernel_rfl) (by kernel_rfl) (fun _ _ _ h => h) (Or.inl ⟨by rfl, ?_⟩) hHeld ?_
                rotate_left
                · intro w hSw
                  try dsimp only at hSw
                  go_simp
                  try (with_reducible rfl)
                try simp only [Act.put, List.setIfInBounds_toArray, List.set_cons_zero, List.set_cons_succ]
                refine take_at (i := 11) (d := some 72) (v := undef) rfl rfl (by kernel_rfl) (by kernel_rfl) (by kernel_rfl) (fun _ _ _ h => h) (Or.inr ⟨by rfl, rfl⟩) hHeld ?_
                try simp only [Act.put, List.setIfInBounds_toArray, List.set_cons_zero, List.set_cons_succ]
                refine take_at (i := 12) (d := some 73) (v := undef) rfl rfl (by kernel_rfl) (by kernel_rfl) (by kernel_rfl) (fun _ _ _ h => h) (Or.inr ⟨by rfl, rfl⟩) hHeld ?_
                try simp only [Act.put, List.setIfInBounds_toArray, List.set_cons_zero, List.set_cons_succ]
                refine take_at (i := 13) (d := some 74) (v := undef) rfl rfl (by kernel_rfl) (by kernel_rfl) (by kernel_rfl) (fun _ _ _ h => h) (Or.inr ⟨by rfl, rfl⟩) hHeld ?_
                try simp only [Act.put, List.setIfInBounds_toArray, List.set_cons_zero, List.set_cons_succ]
                refine take_at (i := 14) (d := some 75) (v := undef) rfl rfl (by kernel_rfl) (by kernel_rfl) (by kernel_rfl) (fun _ _ _ h => h) (Or.inr ⟨by rfl, rfl⟩) hHeld ?_
                try simp only [Act.put, List.setIfInBounds_toArray, List.set_cons_zero, List.set_cons_succ]
                refine take_at (i := 15) (d := some 76) (v := undef) rfl rfl (by kernel_rfl) (by kernel_rfl) (by kernel_rfl) (fun _ _ _ h => h) (Or.inr ⟨by rfl, rfl⟩) hHeld ?_
                try simp only [Act.put, List.setIfInBounds_toArray, List.set_cons_zero, List.set_cons_succ]
                refine take_at (i := 16) (d := some 77) (v := undef) rfl rfl (by kernel_rfl) (by kernel_rfl) (by kernel_rfl) (fun _ _ _ h => h) (Or.inr ⟨by rfl, rfl⟩) hHeld ?_
                try simp only [Act.put, List.setIfInBounds_toArray, List.set_cons_zero, List.set_cons_succ]
                refine take_at (i := 17) (d := some 78) (v := undef) rfl rfl (by kernel_rfl) (by kernel_rfl) (by kernel_rfl) (fun _ _ _ h => h) (Or.inr ⟨by rfl, rfl⟩) hHeld ?_
                try simp only [Act.put, List.setIfInBounds_toArray, List.set_cons_zero, List.set_cons_succ]
                refine take_at (i := 18) (d := some 79) (v := undef) rfl rfl (by kernel_rfl) (by kernel_rfl) (by kernel_rfl) (fun _ _ _ h => h) (Or.inr ⟨by rfl, rfl⟩) hHeld ?_
                try simp only [Act.put, List.setIfInBounds_toArray, List.set_cons_zero, List.set_cons_succ]
                refine take_at (i := 19) (d := some 80) (v := ?_) rfl rfl (by kernel_rfl) (by kernel_rfl) (by kernel_rfl) (fun _ _ _ h => h) (Or.inl ⟨by rfl, ?_⟩) hHeld ?_
                rotate_left
                · intro w hSw
                  try dsimp only at hSw
                  go_simp
                  try (with_reducible rfl)
                try simp only [Act.put, List.setIfInBounds_toArray, List.set_cons_zero, List.set_cons_succ]
                refine take_at (i := 20) (d := some 81) (v := ?_) rfl rfl (by kernel_rfl) (by kernel_rfl) (by kernel_rfl) (fun _ _ _ h => h) (Or.inl ⟨by rfl, ?_⟩) hHeld ?_
                rotate_left
                · intro w hSw
                  try dsimp only at hSw
                  go_simp
                  try (with_reducible rfl)
                try simp only [Act.put, List.setIfInBounds_toArray, List.set_cons_zero, List.set_cons_succ]
                refine take_at (i := 21) (d := some 82) (v := undef) rfl rfl (by kernel_rfl) (by kernel_rfl) (by kernel_rfl) (fun _ _ _ h => h) (Or.inr ⟨by rfl, rfl⟩) hHeld ?_
                try simp only [Act.put, List.setIfInBounds_toArray, List.set_cons_zero, List.set_cons_succ]
                refine take_at (i := 22) (d := some 83) (v := undef) rfl rfl (by kernel_rfl) (by kernel_rfl) (by kernel_rfl) (fun _ _ _ h => h) (Or.inr ⟨by rfl, rfl⟩) hHeld ?_
                try simp only [Act.put, List.setIfInBounds_toArray, List.set_cons_zero, List.set_cons_succ]
                refine take_at (i := 23) (d := some 84) (v := undef) rfl rfl (by kernel_rfl) (by kernel_rfl) (by kernel_rfl) (fun _ _ _ h => h) (Or.inr ⟨by rfl, rfl⟩) hHeld ?_
                try simp only [Act.put, List.setIfInBounds_toArray, List.set_cons_zero, List.set_cons_succ]
                refine take_at (i := 24) (d := some 85) (v := undef) rfl rfl (by kernel_rfl) (by kernel_rfl) (by kernel_rfl) (fun _ _ _ h => h) (Or.inr ⟨by rfl, rfl⟩) hHeld ?_
                try simp only [Act.put, List.setIfInBounds_toArray, List.set_cons_zero, List.set_cons_succ]
                refine take_at (i := 25) (d := some 86) (v := undef) rfl rfl (by kernel_rfl) (by kernel_rfl) (by kernel_rfl) (fun _ _ _ h => h) (Or.inr ⟨by rfl, rfl⟩) hHeld ?_
                try simp only [Act.put, List.setIfInBounds_toArray, List.set_cons_zero, List.set_cons_succ]
                refine take_at (i := 26) (d := some 87) (v := undef) rfl rfl (by kernel_rfl) (by kernel_rfl) (by kernel_rfl) (fun _ _ _ h => h) (Or.inr ⟨by rfl, rfl⟩) hHeld ?_
                try simp only [Act.put, List.setIfInBounds_toArray, List.set_cons_zero, List.set_cons_succ]
                refine take_at (i := 27) (d := some 88) (v := undef) rfl rfl (by kernel_rfl) (by kernel_rfl) (by kernel_rfl) (fun _ _ _ h => h) (Or.inr ⟨by rfl, rfl⟩) hHeld ?_
                try simp only [Act.put, List.setIfInBounds_toArray, List.set_cons_zero, List.set_cons_succ]
                refine take_at (i := 28) (d := some 89) (v := ?_) rfl rfl (by kernel_rfl) (by kernel_rfl) (by kernel_rfl) (fun _ _ _ h => h) (Or.inl ⟨by rfl, ?_⟩) hHeld ?_
                rotate_left
                · intro w hSw
                  try dsimp only at hSw
                  go_simp
                  try (with_reducible rfl)
                try simp only [Act.put, List.setIfInBounds_toArray, List.set_cons_zero, List.set_cons_succ]
                refine wpAnyH_done (by kernel_rfl) ?_ _
                go_wp2
                go_roundw
                case rel => exact ⟨z + 1, by go_num, .inl ⟨by have := HVD.out; omega, rfl⟩, HKR.out.trans kd⟩
                case measure => simp [intOf]; omega
              | some k =>
                obtain ⟨x, hx, hxo⟩ := cmX_get hr
                have hku : k < u := by rw [← HLU.out]; exact (List.getElem?_eq_some_iff.1 hx).1
                have HCV : RowKit.Hid (cmV L ((z : Int) + 1) = (k : Int)) := Lib.hid (by unfold cmV; rw [hr])
                rw [HCV.out] at HCM
                obtain ⟨cb, co, hD, htc⟩ := (HSL3.out.kept HKR.out).2.2.2.2 (by omega)
                subst hD
                have hct := htc k x hx 1 _ rfl
                have HCT := Lib.hid hct
                have HXK := Lib.hid hx
                have hk0 : (0 : Int) ≤ (k : Int) := by omega
                have hku' : (k : Int) < (u : Int) := by omega
                have hge1 : decide ((k : Int) ≥ 0) = true := by simp
                have hge2 : decide ((0 : Int) ≤ (k : Int)) = true := by simp
                clear htc hct
                obtain ⟨nb, hnb⟩ : ∃ b, decide (0 < x.num) = b := ⟨_, rfl⟩
                have hnb2 : decide (x.num > 0) = nb := hnb
                obtain ⟨fbt, hfbt⟩ : ∃ b, fitR ms fs day s ((z : Int) + 1) = b := ⟨_, rfl⟩
                have HFT : RowKit.Hid (∀ W, Kept wr W → Calls Tryz.prog 94 #[.agg #[.slice A n c, .slice B m d], .int .i64 day, .agg #[.int .u8 s.s0, .int .u8 s.s1, .int .u8 s.s2, .int .u8 s.s3, .int .u8 s.s4, .int .u8 s.s5], .int .i64 ((z : Int) + 1)] W fun e w' => e = .returned (.bool fbt) ∧ Kept W w') := Lib.hid (fun W hW => by rw [← hfbt]; exact HFT0.out s _ W (K3.out.trans (HKR.out.trans hW)))
                obtain ⟨mt, hmt⟩ : ∃ b, metR ms fs day (found.drop (i + 1)) (lsC L k) = b := ⟨_, rfl⟩
                have HVD : RowKit.Hid (decide (((z : Int) + 1) = (Y : Int)) = (nb && (fbt && mt))) := Lib.hid (by
                  have h := HV.out
                  unfold srvB at h
                  rw [hr] at h
                  simp only at h
                  rw [hx] at h
                  simp only at h
                  rw [hnb, hfbt, hmt] at h
                  exact h.symm)
                have HHN := Lib.hid hnb
                have HMT2 : RowKit.Hid (∀ (A5 : Option Addr) (c5 : Nat) W, Kept wr W → SlA clC 2 Cl.ok W A5 u c5 (lsC L k) → nb = true → Calls Tryz.prog 116 #[.agg #[.slice A n c, .slice B m d], .int .i64 day, .slice RC p2 q2, .slice A5 u c5] W fun e w' => e = .returned (.bool mt) ∧ Kept W w') := Lib.hid (fun A5 c5 W hW h5 hnt => by
                  have hk5 := K3.out.trans (HKR.out.trans hW)
                  have h := HMT.out RC p2 q2 (found.drop (i + 1)) A5 u c5 (lsC L k) W hk5 (HRS.out.kept hk5) h5 hu10 hp2 (HJ.out.I.lf.step HXK.out (of_decide_eq_true (by rw [HHN.out, hnt]))).cl
                  rw [hmt] at h
                  exact h)
                have HLS : RowKit.Hid (nb = true → ∀ W, Kept wr W → Calls Tryz.prog 118 #[.slice (some ⟨cb, co, none⟩) u cap, .int .i64 (k : Int)] W fun e w' => ∃ A5 c5, e = .returned (.slice A5 u c5) ∧ SlA clC 2 Cl.ok w' A5 u c5 (lsC L k) ∧ Kept W w') := Lib.hid (fun hnt W hW => (rless_any _ u cap L k x W (HSL3.out.kept (HKR.out.trans hW)) (by omega) HXK.out (of_decide_eq_true (by rw [HHN.out, hnt]))).mono fun e w' h => by
                  obtain ⟨A5, c5, h1, h2, h3, _⟩ := h
                  rw [HLU.out] at h1 h2
                  exact ⟨A5, c5, h1, h2, h3⟩)
                clear hr hx hmt hfbt
                go_wp2_with fail
                refine HCM.out.mono ?_
                rintro e w4 ⟨rfl, hw4⟩
                rw [hw4]
                clear hw4 w4
                go_upto_region 18 with (fail)
                have SC : RowKit.Hid (∀ W, Kept wr W → W.cell? ⟨w.heap.size, 0, none⟩ = some (.slice A n c) ∧ W.cell? ⟨w.heap.size, 1, none⟩ = some (.slice B m d) ∧ W.cell? ⟨fb, fo + i * 6, none⟩ = some (.int .u8 s.s0) ∧ W.cell? ⟨fb, fo + i * 6 + 1, none⟩ = some (.int .u8 s.s1) ∧ W.cell? ⟨fb, fo + i * 6 + 2, none⟩ = some (.int .u8 s.s2) ∧ W.cell? ⟨fb, fo + i * 6 + 3, none⟩ = some (.int .u8 s.s3) ∧ W.cell? ⟨fb, fo + i * 6 + 4, none⟩ = some (.int .u8 s.s4) ∧ W.cell? ⟨fb, fo + i * 6 + 5, none⟩ = some (.int .u8 s.s5) ∧ W.cell? ⟨cb, co + k * 2 + 1, none⟩ = some (.int .i64 x.num) ∧ Kept wr W) := Lib.hid (fun W hW => by
                  have hK := K3.out.trans (HKR.out.trans hW)
                  refine ⟨(R0.out.kept hK 0 _ rfl).1, (R0.out.kept hK 1 _ rfl).1, ?c0, ?c1, ?c2, ?c3, ?c4, ?c5, (hW.cells _ _ (cell_lt HCT.out)).trans HCT.out, hW⟩
                  case c0 =>
                    have := HSC.out 0 _ rfl
                    exact (hK.cells _ _ (cell_lt this)).trans this
                  case c1 =>
                    have := HSC.out 1 _ rfl
                    exact (hK.cells _ _ (cell_lt this)).trans this
                  case c2 =>
                    have := HSC.out 2 _ rfl
                    exact (hK.cells _ _ (cell_lt this)).trans this
                  case c3 =>
                    have := HSC.out 3 _ rfl
                    exact (hK.cells _ _ (cell_lt this)).trans this
                  case c4 =>
                    have := HSC.out 4 _ rfl
                    exact (hK.cells _ _ (cell_lt this)).trans this
                  case c5 =>
                    have := HSC.out 5 _ rfl
                    exact (hK.cells _ _ (cell_lt this)).trans this
                  )
                have q0 := (SC.out _ (Kept.refl _)).1
                have lq := cell_lt q0
                have q2 := (SC.out _ (Kept.refl _)).2.2.1
                have lq2 := cell_lt q2
                have lq3 := cell_lt HCT.out
                clear q0 q2
                cases nb with
                | false =>
                  have HVN : RowKit.Hid (z + 1 ≠ Y) := Lib.hid (by have := of_decide_eq_false (HVD.out.trans (by simp)); omega)
                  refine wp_region_held_drew (S := fun W => W.cell? ⟨w.heap.size, 0, none⟩ = some (.slice A n c) ∧ W.cell? ⟨w.heap.size, 1, none⟩ = some (.slice B m d) ∧ W.cell? ⟨fb, fo + i * 6, none⟩ = some (.int .u8 s.s0) ∧ W.cell? ⟨fb, fo + i * 6 + 1, none⟩ = some (.int .u8 s.s1) ∧ W.cell? ⟨fb, fo + i * 6 + 2, none⟩ = some (.int .u8 s.s2) ∧ W.cell? ⟨fb, fo + i * 6 + 3, none⟩ = some (.int .u8 s.s3) ∧ W.cell? ⟨fb, fo + i * 6 + 4, none⟩ = some (.int .u8 s.s4) ∧ W.cell? ⟨fb, fo + i * 6 + 5, none⟩ = some (.int .u8 s.s5) ∧ W.cell? ⟨cb, co + k * 2 + 1, none⟩ = some (.int .i64 x.num) ∧ Kept wr W) (by kernel_rfl) (SC.out _ kd) (fun hHeld => ?_)
                  refine take_at (i := 0) (d := some 61) (v := ?_) rfl rfl (by kernel_rfl) (by kernel_rfl) (by kernel_rfl) (fun _ _ _ h => h) (Or.inl ⟨by rfl, ?_⟩) hHeld ?_
                  rotate_left
                  · intro w hSw
                    try dsimp only at hSw
                    go_simp
                    try (with_reducible rfl)
                  try simp only [Act.put, List.setIfInBounds_toArray, List.set_cons_zero, List.set_cons_succ]
                  refine take_at (i := 1) (d := some 62) (v := ?_) rfl rfl (by kernel_rfl) (by kernel_rfl) (by kernel_rfl) (fun _ _ _ h => h) (Or.inl ⟨by rfl, ?_⟩) hHeld ?_
                  rotate_left
                  · intro w hSw
                    try dsimp only at hSw
                    go_simp
                    try (with_reducible rfl)
                  try simp only [Act.put, List.setIfInBounds_toArray, List.set_cons_zero, List.set_cons_succ]
                  refine take_at (i := 2) (d := some 63) (v := ?_) rfl rfl (by kernel_rfl) (by kernel_rfl) (by kernel_rfl) (fun _ _ _ h => h) (Or.inl ⟨by rfl, ?_⟩) hHeld ?_
                  rotate_left
                  · intro w hSw
                    try dsimp only at hSw
                    go_simp
                    try (with_reducible rfl)
                  try simp only [Act.put, List.setIfInBounds_toArray, List.set_cons_zero, List.set_cons_succ]
                  refine take_at (i := 3) (d := some 64) (v := ?_) rfl rfl (by kernel_rfl) (by kernel_rfl) (by kernel_rfl) (fun _ _ _ h => h) (Or.inl ⟨by rfl, ?_⟩) hHeld ?_
                  rotate_left
                  · intro w hSw
                    try dsimp only at hSw
                    go_simp
                    try (with_reducible rfl)
                  try simp only [Act.put, List.setIfInBounds_toArray, List.set_cons_zero, List.set_cons_succ]
                  refine take_at (i := 4) (d := some 65) (v := ?_) rfl rfl (by kernel_rfl) (by kernel_rfl) (by kernel_rfl) (fun _ _ _ h => h) (Or.inl ⟨by rfl, ?_⟩) hHeld ?_
                  rotate_left
                  · intro w hSw
                    try dsimp only at hSw
                    go_simp
                    try (with_reducible rfl)
                  try simp only [Act.put, List.setIfInBounds_toArray, List.set_cons_zero, List.set_cons_succ]
                  refine take_at (i := 5) (d := some 66) (v := ?_) rfl rfl (by kernel_rfl) (by kernel_rfl) (by kernel_rfl) (fun _ _ _ h => h) (Or.inl ⟨by rfl, ?_⟩) hHeld ?_
                  rotate_left
                  · intro w hSw
                    try dsimp only at hSw
                    go_simp
                    try (with_reducible rfl)
                  try simp only [Act.put, List.setIfInBounds_toArray, List.set_cons_zero, List.set_cons_succ]
                  refine take_at (i := 6) (d := some 67) (v := ?_) rfl rfl (by kernel_rfl) (by kernel_rfl) (by kernel_rfl) (fun _ _ _ h => h) (Or.inl ⟨by rfl, ?_⟩) hHeld ?_
                  rotate_left
                  · intro w hSw
                    try dsimp only at hSw
                    go_simp
                    try (with_reducible rfl)
                  try simp only [Act.put, List.setIfInBounds_toArray, List.set_cons_zero, List.set_cons_succ]
                  refine take_at (i := 7) (d := some 68) (v := ?_) rfl rfl (by kernel_rfl) (by kernel_rfl) (by kernel_rfl) (fun _ _ _ h => h) (Or.inl ⟨by rfl, ?_⟩) hHeld ?_
                  rotate_left
                  · intro w hSw
                    try dsimp only at hSw
                    go_simp
                    try (with_reducible rfl)
                  try simp only [Act.put, List.setIfInBounds_toArray, List.set_cons_zero, List.set_cons_succ]
                  refine take_at (i := 8) (d := some 69) (v := ?_) rfl rfl (by kernel_rfl) (by kernel_rfl) (by kernel_rfl) (fun _ _ _ h => h) (Or.inl ⟨by rfl, ?_⟩) hHeld ?_
                  rotate_left
                  · intro w hSw
                    try dsimp only at hSw
                    go_simp
                    try (with_reducible rfl)
                  try simp only [Act.put, List.setIfInBounds_toArray, List.set_cons_zero, List.set_cons_succ]
                  refine take_at (i := 9) (d := some 70) (v := ?_) rfl rfl (by kernel_rfl) (by kernel_rfl) (by kernel_rfl) (fun _ _ _ h => h) (Or.inl ⟨by rfl, ?_⟩) hHeld ?_
                  rotate_left
                  · intro w hSw
                    try dsimp only at hSw
                    go_simp
                    try (with_reducible rfl)
                  try simp only [Act.put, List.setIfInBounds_toArray, List.set_cons_zero, List.set_cons_succ]
                  refine take_at (i := 10) (d := some 71) (v := ?_) rfl rfl (by kernel_rfl) (by kernel_rfl) (by kernel_rfl) (fun _ _ _ h => h) (Or.inl ⟨by rfl, ?_⟩) hHeld ?_
                  rotate_left
                  · intro w hSw
                    try dsimp only at hSw
                    go_simp
                    try (with_reducible rfl)
                  try simp only [Act.put, List.setIfInBounds_toArray, List.set_cons_zero, List.set_cons_succ]
                  refine take_at (i := 11) (d := some 72) (v := undef) rfl rfl (by kernel_rfl) (by kernel_rfl) (by kernel_rfl) (fun _ _ _ h => h) (Or.inr ⟨by rfl, rfl⟩) hHeld ?_
                  try simp only [Act.put, List.setIfInBounds_toArray, List.set_cons_zero, List.set_cons_succ]
                  refine take_at (i := 12) (d := some 73) (v := undef) rfl rfl (by kernel_rfl) (by kernel_rfl) (by kernel_rfl) (fun _ _ _ h => h) (Or.inr ⟨by rfl, rfl⟩) hHeld ?_
                  try simp only [Act.put, List.setIfInBounds_toArray, List.set_cons_zero, List.set_cons_succ]
                  refine take_at (i := 13) (d := some 74) (v := undef) rfl rfl (by kernel_rfl) (by kernel_rfl) (by kernel_rfl) (fun _ _ _ h => h) (Or.inr ⟨by rfl, rfl⟩) hHeld ?_
                  try simp only [Act.put, List.setIfInBounds_toArray, List.set_cons_zero, List.set_cons_succ]
                  refine take_at (i := 14) (d := some 75) (v := undef) rfl rfl (by kernel_rfl) (by kernel_rfl) (by kernel_rfl) (fun _ _ _ h => h) (Or.inr ⟨by rfl, rfl⟩) hHeld ?_
                  try simp only [Act.put, List.setIfInBounds_toArray, List.set_cons_zero, List.set_cons_succ]
                  refine take_at (i := 15) (d := some 76) (v := undef) rfl rfl (by kernel_rfl) (by kernel_rfl) (by kernel_rfl) (fun _ _ _ h => h) (Or.inr ⟨by rfl, rfl⟩) hHeld ?_
                  try simp only [Act.put, List.setIfInBounds_toArray, List.set_cons_zero, List.set_cons_succ]
                  refine take_at (i := 16) (d := some 77) (v := undef) rfl rfl (by kernel_rfl) (by kernel_rfl) (by kernel_rfl) (fun _ _ _ h => h) (Or.inr ⟨by rfl, rfl⟩) hHeld ?_
                  try simp only [Act.put, List.setIfInBounds_toArray, List.set_cons_zero, List.set_cons_succ]
                  refine take_at (i := 17) (d := some 78) (v := undef) rfl rfl (by kernel_rfl) (by kernel_rfl) (by kernel_rfl) (fun _ _ _ h => h) (Or.inr ⟨by rfl, rfl⟩) hHeld ?_
                  try simp only [Act.put, List.setIfInBounds_toArray, List.set_cons_zero, List.set_cons_succ]
                  refine take_at (i := 18) (d := some 79) (v := undef) rfl rfl (by kernel_rfl) (by kernel_rfl) (by kernel_rfl) (fun _ _ _ h => h) (Or.inr ⟨by rfl, rfl⟩) hHeld ?_
                  try simp only [Act.put, List.setIfInBounds_toArray, List.set_cons_zero, List.set_cons_succ]
                  refine take_at (i := 19) (d := some 80) (v := ?_) rfl rfl (by kernel_rfl) (by kernel_rfl) (by kernel_rfl) (fun _ _ _ h => h) (Or.inl ⟨by rfl, ?_⟩) hHeld ?_
                  rotate_left
                  · intro w hSw
                    try dsimp only at hSw
                    go_simp
                    try (with_reducible rfl)
                  try simp only [Act.put, List.setIfInBounds_toArray, List.set_cons_zero, List.set_cons_succ]
                  refine take_at (i := 20) (d := some 81) (v := ?_) rfl rfl (by kernel_rfl) (by kernel_rfl) (by kernel_rfl) (fun _ _ _ h => h) (Or.inl ⟨by rfl, ?_⟩) hHeld ?_
                  rotate_left
                  · intro w hSw
                    try dsimp only at hSw
                    go_simp
                    try (with_reducible rfl)
                  try simp only [Act.put, List.setIfInBounds_toArray, List.set_cons_zero, List.set_cons_succ]
                  refine take_at (i := 21) (d := some 82) (v := undef) rfl rfl (by kernel_rfl) (by kernel_rfl) (by kernel_rfl) (fun _ _ _ h => h) (Or.inr ⟨by rfl, rfl⟩) hHeld ?_
                  try simp only [Act.put, List.setIfInBounds_toArray, List.set_cons_zero, List.set_cons_succ]
                  refine take_at (i := 22) (d := some 83) (v := undef) rfl rfl (by kernel_rfl) (by kernel_rfl) (by kernel_rfl) (fun _ _ _ h => h) (Or.inr ⟨by rfl, rfl⟩) hHeld ?_
                  try simp only [Act.put, List.setIfInBounds_toArray, List.set_cons_zero, List.set_cons_succ]
                  refine take_at (i := 23) (d := some 84) (v := undef) rfl rfl (by kernel_rfl) (by kernel_rfl) (by kernel_rfl) (fun _ _ _ h => h) (Or.inr ⟨by rfl, rfl⟩) hHeld ?_
                  try simp only [Act.put, List.setIfInBounds_toArray, List.set_cons_zero, List.set_cons_succ]
                  refine take_at (i := 24) (d := some 85) (v := undef) rfl rfl (by kernel_rfl) (by kernel_rfl) (by kernel_rfl) (fun _ _ _ h => h) (Or.inr ⟨by rfl, rfl⟩) hHeld ?_
                  try simp only [Act.put, List.setIfInBounds_toArray, List.set_cons_zero, List.set_cons_succ]
                  refine take_at (i := 25) (d := some 86) (v := undef) rfl rfl (by kernel_rfl) (by kernel_rfl) (by kernel_rfl) (fun _ _ _ h => h) (Or.inr ⟨by rfl, rfl⟩) hHeld ?_
                  try simp only [Act.put, List.setIfInBounds_toArray, List.set_cons_zero, List.set_cons_succ]
                  refine take_at (i := 26) (d := some 87) (v := undef) rfl rfl (by kernel_rfl) (by kernel_rfl) (by kernel_rfl) (fun _ _ _ h => h) (Or.inr ⟨by rfl, rfl⟩) hHeld ?_
                  try simp only [Act.put, List.setIfInBounds_toArray, List.set_cons_zero, List.set_cons_succ]
                  refine take_at (i := 27) (d := some 88) (v := undef) rfl rfl (by kernel_rfl) (by kernel_rfl) (by kernel_rfl) (fun _ _ _ h => h) (Or.inr ⟨by rfl, rfl⟩) hHeld ?_
                  try simp only [Act.put, List.setIfInBounds_toArray, List.set_cons_zero, List.set_cons_succ]
                  refine take_at (i := 28) (d := some 89) (v := ?_) rfl rfl (by kernel_rfl) (by kernel_rfl) (by kernel_rfl) (fun _ _ _ h => h) (Or.inl ⟨by rfl, ?_⟩) hHeld ?_
                  rotate_left
                  · intro w hSw
                    try dsimp only at hSw
                    go_simp
                    try (with_reducible rfl)
                  try simp only [Act.put, List.setIfInBounds_toArray, List.set_cons_zero, List.set_cons_succ]
                  refine wpAnyH_done (by kernel_rfl) ?_ _
                  go_wp2
                  go_roundw
                  case rel => exact ⟨z + 1, by go_num, .inl ⟨by have := HVN.out; omega, rfl⟩, HKR.out.trans kd⟩
                  case measure => simp [intOf]; omega
                | true =>
                  have HLS1 := Lib.hid (HLS.out rfl)
                  have HMT3 := Lib.hid (fun A5 c5 W h1 h2 => HMT2.out A5 c5 W h1 h2 rfl)
                  clear HLS HMT2
                  cases fbt with
                  | false =>
                    have HVN : RowKit.Hid (z + 1 ≠ Y) := Lib.hid (by have := of_decide_eq_false (HVD.out.trans (by simp)); omega)
                    refine wp_region_held_drew (S := fun W => W.cell? ⟨w.heap.size, 0, none⟩ = some (.slice A n c) ∧ W.cell? ⟨w.heap.size, 1, none⟩ = some (.slice B m d) ∧ W.cell? ⟨fb, fo + i * 6, none⟩ = some (.int .u8 s.s0) ∧ W.cell? ⟨fb, fo + i * 6 + 1, none⟩ = some (.int .u8 s.s1) ∧ W.cell? ⟨fb, fo + i * 6 + 2, none⟩ = some (.int .u8 s.s2) ∧ W.cell? ⟨fb, fo + i * 6 + 3, none⟩ = some (.int .u8 s.s3) ∧ W.cell? ⟨fb, fo + i * 6 + 4, none⟩ = some (.int .u8 s.s4) ∧ W.cell? ⟨fb, fo + i * 6 + 5, none⟩ = some (.int .u8 s.s5) ∧ W.cell? ⟨cb, co + k * 2 + 1, none⟩ = some (.int .i64 x.num) ∧ Kept wr W) (by kernel_rfl) (SC.out _ kd) (fun hHeld => ?_)
                    refine take_at (i := 0) (d := some 61) (v := ?_) rfl rfl (by kernel_rfl) (by kernel_rfl) (by kernel_rfl) (fun _ _ _ h => h) (Or.inl ⟨by rfl, ?_⟩) hHeld ?_
                    rotate_left
                    · intro w hSw
                      try dsimp only at hSw
                      go_simp
                      try (with_reducible rfl)
                    try simp only [Act.put, List.setIfInBounds_toArray, List.set_cons_zero, List.set_cons_succ]
                    refine take_at (i := 1) (d := some 62) (v := ?_) rfl rfl (by kernel_rfl) (by kernel_rfl) (by kernel_rfl) (fun _ _ _ h => h) (Or.inl ⟨by rfl, ?_⟩) hHeld ?_
                    rotate_left
                    · intro w hSw
                      try dsimp only at hSw
                      go_simp
                      try (with_reducible rfl)
                    try simp only [Act.put, List.setIfInBounds_toArray, List.set_cons_zero, List.set_cons_succ]
                    refine take_at (i := 2) (d := some 63) (v := ?_) rfl rfl (by kernel_rfl) (by kernel_rfl) (by kernel_rfl) (fun _ _ _ h => h) (Or.inl ⟨by rfl, ?_⟩) hHeld ?_
                    rotate_left
                    · intro w hSw
                      try dsimp only at hSw
                      go_simp
                      try (with_reducible rfl)
                    try simp only [Act.put, List.setIfInBounds_toArray, List.set_cons_zero, List.set_cons_succ]
                    refine take_at (i := 3) (d := some 64) (v := ?_) rfl rfl (by kernel_rfl) (by kernel_rfl) (by kernel_rfl) (fun _ _ _ h => h) (Or.inl ⟨by rfl, ?_⟩) hHeld ?_
                    rotate_left
                    · intro w hSw
                      try dsimp only at hSw
                      go_simp
                      try (with_reducible rfl)
                    try simp only [Act.put, List.setIfInBounds_toArray, List.set_cons_zero, List.set_cons_succ]
                    refine take_at (i := 4) (d := some 65) (v := ?_) rfl rfl (by kernel_rfl) (by kernel_rfl) (by kernel_rfl) (fun _ _ _ h => h) (Or.inl ⟨by rfl, ?_⟩) hHeld ?_
                    rotate_left
                    · intro w hSw
                      try dsimp only at hSw
                      go_simp
                      try (with_reducible rfl)
                    try simp only [Act.put, List.setIfInBounds_toArray, List.set_cons_zero, List.set_cons_succ]
                    refine take_at (i := 5) (d := some 66) (v := ?_) rfl rfl (by kernel_rfl) (by kernel_rfl) (by kernel_rfl) (fun _ _ _ h => h) (Or.inl ⟨by rfl, ?_⟩) hHeld ?_
                    rotate_left
                    · intro w hSw
                      try dsimp only at hSw
                      go_simp
                      try (with_reducible rfl)
                    try simp only [Act.put, List.setIfInBounds_toArray, List.set_cons_zero, List.set_cons_succ]
                    refine take_at (i := 6) (d := some 67) (v := ?_) rfl rfl (by kernel_rfl) (by kernel_rfl) (by kernel_rfl) (fun _ _ _ h => h) (Or.inl ⟨by rfl, ?_⟩) hHeld ?_
                    rotate_left
                    · intro w hSw
                      try dsimp only at hSw
                      go_simp
                      try (with_reducible rfl)
                    try simp only [Act.put, List.setIfInBounds_toArray, List.set_cons_zero, List.set_cons_succ]
                    refine take_at (i := 7) (d := some 68) (v := ?_) rfl rfl (by kernel_rfl) (by kernel_rfl) (by kernel_rfl) (fun _ _ _ h => h) (Or.inl ⟨by rfl, ?_⟩) hHeld ?_
                    rotate_left
                    · intro w hSw
                      try dsimp only at hSw
                      go_simp
                      try (with_reducible rfl)
                    try simp only [Act.put, List.setIfInBounds_toArray, List.set_cons_zero, List.set_cons_succ]
                    refine take_at (i := 8) (d := some 69) (v := ?_) rfl rfl (by kernel_rfl) (by kernel_rfl) (by kernel_rfl) (fun _ _ _ h => h) (Or.inl ⟨by rfl, ?_⟩) hHeld ?_
                    rotate_left
                    · intro w hSw
                      try dsimp only at hSw
                      go_simp
                      try (with_reducible rfl)
                    try simp only [Act.put, List.setIfInBounds_toArray, List.set_cons_zero, List.set_cons_succ]
                    refine take_at (i := 9) (d := some 70) (v := ?_) rfl rfl (by kernel_rfl) (by kernel_rfl) (by kernel_rfl) (fun _ _ _ h => h) (Or.inl ⟨by rfl, ?_⟩) hHeld ?_
                    rotate_left
                    · intro w hSw
                      try dsimp only at hSw
                      go_simp
                      try (with_reducible rfl)
                    try simp only [Act.put, List.setIfInBounds_toArray, List.set_cons_zero, List.set_cons_succ]
                    refine take_at (i := 10) (d := some 71) (v := ?_) rfl rfl (by kernel_rfl) (by kernel_rfl) (by kernel_rfl) (fun _ _ _ h => h) (Or.inl ⟨by rfl, ?_⟩) hHeld ?_
                    rotate_left
                    · intro w hSw
                      try dsimp only at hSw
                      go_simp
                      try (with_reducible rfl)
                    try simp only [Act.put, List.setIfInBounds_toArray, List.set_cons_zero, List.set_cons_succ]
                    refine take_at (i := 11) (d := some 72) (v := ?_) rfl rfl (by kernel_rfl) (by kernel_rfl) (by kernel_rfl) (fun _ _ _ h => h) (Or.inl ⟨by rfl, ?_⟩) hHeld ?_
                    rotate_left
                    · intro w hSw
                      try dsimp only at hSw
                      go_simp
                      try (with_reducible rfl)
                    try simp only [Act.put, List.setIfInBounds_toArray, List.set_cons_zero, List.set_cons_succ]
                    refine take_at (i := 12) (d := some 73) (v := ?_) rfl rfl (by kernel_rfl) (by kernel_rfl) (by kernel_rfl) (fun _ _ _ h => h) (Or.inl ⟨by rfl, ?_⟩) hHeld ?_
                    rotate_left
                    · intro w hSw
                      try dsimp only at hSw
                      go_simp
                      try (with_reducible rfl)
                    try simp only [Act.put, List.setIfInBounds_toArray, List.set_cons_zero, List.set_cons_succ]
                    refine take_at (i := 13) (d := some 74) (v := ?_) rfl rfl (by kernel_rfl) (by kernel_rfl) (by kernel_rfl) (fun _ _ _ h => h) (Or.inl ⟨by rfl, ?_⟩) hHeld ?_
                    rotate_left
                    · intro w hSw
                      try dsimp only at hSw
                      go_simp
                      try (with_reducible rfl)
                    try simp only [Act.put, List.setIfInBounds_toArray, List.set_cons_zero, List.set_cons_succ]
                    refine take_at (i := 14) (d := some 75) (v := ?_) rfl rfl (by kernel_rfl) (by kernel_rfl) (by kernel_rfl) (fun _ _ _ h => h) (Or.inl ⟨by rfl, ?_⟩) hHeld ?_
                    rotate_left
                    · intro w hSw
                      try dsimp only at hSw
                      go_simp
                      try (with_reducible rfl)
                    try simp only [Act.put, List.setIfInBounds_toArray, List.set_cons_zero, List.set_cons_succ]
                    refine take_at (i := 15) (d := some 76) (v := ?_) rfl rfl (by kernel_rfl) (by kernel_rfl) (by kernel_rfl) (fun _ _ _ h => h) (Or.inl ⟨by rfl, ?_⟩) hHeld ?_
                    rotate_left
                    · intro w hSw
                      try dsimp only at hSw
                      go_simp
                      try (with_reducible rfl)
                    try simp only [Act.put, List.setIfInBounds_toArray, List.set_cons_zero, List.set_cons_succ]
                    refine take_at (i := 16) (d := some 77) (v := ?_) rfl rfl (by kernel_rfl) (by kernel_rfl) (by kernel_rfl) (fun _ _ _ h => h) (Or.inl ⟨by rfl, ?_⟩) hHeld ?_
                    rotate_left
                    · intro w hSw
                      try dsimp only at hSw
                      go_simp
                      try (with_reducible rfl)
                    try simp only [Act.put, List.setIfInBounds_toArray, List.set_cons_zero, List.set_cons_succ]
                    refine take_at (i := 17) (d := some 78) (v := ?_) rfl rfl (by kernel_rfl) (by kernel_rfl) (by kernel_rfl) (fun _ _ _ h => h) (Or.inl ⟨by rfl, ?_⟩) hHeld ?_
                    rotate_left
                    · intro w hSw
                      try dsimp only at hSw
                      go_simp
                      try (with_reducible rfl)
                    try simp only [Act.put, List.setIfInBounds_toArray, List.set_cons_zero, List.set_cons_succ]
                    refine wpAnyH_ready (rs := [18]) (by kernel_rfl) (by simp) ?_
                    refine AllReadyH.cons rfl (fun K hK => ?_) AllReadyH.nil
                    rw [if_pos (by rfl)]
                    go_simp
                    refine (HFT.out _ kd).mono ?_
                    rintro e w9 ⟨rfl, hk9⟩
                    go_wp2_with fail
                    refine hK.out _ _ (SC.out _ (kd.trans hk9)) (fun hHeld => ?_)
                    clear hK K
                    try simp only [Act.put, List.setIfInBounds_toArray, List.set_cons_zero, List.set_cons_succ]
                    refine take_at (i := 19) (d := some 80) (v := ?_) rfl rfl (by kernel_rfl) (by kernel_rfl) (by kernel_rfl) (fun _ _ _ h => h) (Or.inl ⟨by rfl, ?_⟩) hHeld ?_
                    rotate_left
                    · intro w hSw
                      try dsimp only at hSw
                      go_simp
                      try (with_reducible rfl)
                    try simp only [Act.put, List.setIfInBounds_toArray, List.set_cons_zero, List.set_cons_succ]
                    refine take_at (i := 20) (d := some 81) (v := ?_) rfl rfl (by kernel_rfl) (by kernel_rfl) (by kernel_rfl) (fun _ _ _ h => h) (Or.inl ⟨by rfl, ?_⟩) hHeld ?_
                    rotate_left
                    · intro w hSw
                      try dsimp only at hSw
                      go_simp
                      try (with_reducible rfl)
                    try simp only [Act.put, List.setIfInBounds_toArray, List.set_cons_zero, List.set_cons_succ]
                    refine take_at (i := 21) (d := some 82) (v := undef) rfl rfl (by kernel_rfl) (by kernel_rfl) (by kernel_rfl) (fun _ _ _ h => h) (Or.inr ⟨by rfl, rfl⟩) hHeld ?_
                    try simp only [Act.put, List.setIfInBounds_toArray, List.set_cons_zero, List.set_cons_succ]
                    refine take_at (i := 22) (d := some 83) (v := undef) rfl rfl (by kernel_rfl) (by kernel_rfl) (by kernel_rfl) (fun _ _ _ h => h) (Or.inr ⟨by rfl, rfl⟩) hHeld ?_
                    try simp only [Act.put, List.setIfInBounds_toArray, List.set_cons_zero, List.set_cons_succ]
                    refine take_at (i := 23) (d := some 84) (v := undef) rfl rfl (by kernel_rfl) (by kernel_rfl) (by kernel_rfl) (fun _ _ _ h => h) (Or.inr ⟨by rfl, rfl⟩) hHeld ?_
                    try simp only [Act.put, List.setIfInBounds_toArray, List.set_cons_zero, List.set_cons_succ]
                    refine take_at (i := 24) (d := some 85) (v := undef) rfl rfl (by kernel_rfl) (by kernel_rfl) (by kernel_rfl) (fun _ _ _ h => h) (Or.inr ⟨by rfl, rfl⟩) hHeld ?_
                    try simp only [Act.put, List.setIfInBounds_toArray, List.set_cons_zero, List.set_cons_succ]
                    refine take_at (i := 25) (d := some 86) (v := undef) rfl rfl (by kernel_rfl) (by kernel_rfl) (by kernel_rfl) (fun _ _ _ h => h) (Or.inr ⟨by rfl, rfl⟩) hHeld ?_
                    try simp only [Act.put, List.setIfInBounds_toArray, List.set_cons_zero, List.set_cons_succ]
                    refine take_at (i := 26) (d := some 87) (v := undef) rfl rfl (by kernel_rfl) (by kernel_rfl) (by kernel_rfl) (fun _ _ _ h => h) (Or.inr ⟨by rfl, rfl⟩) hHeld ?_
                    try simp only [Act.put, List.setIfInBounds_toArray, List.set_cons_zero, List.set_cons_succ]
                    refine take_at (i := 27) (d := some 88) (v := undef) rfl rfl (by kernel_rfl) (by kernel_rfl) (by kernel_rfl) (fun _ _ _ h => h) (Or.inr ⟨by rfl, rfl⟩) hHeld ?_
                    try simp only [Act.put, List.setIfInBounds_toArray, List.set_cons_zero, List.set_cons_succ]
                    refine take_at (i := 28) (d := some 89) (v := ?_) rfl rfl (by kernel_rfl) (by kernel_rfl) (by kernel_rfl) (fun _ _ _ h => h) (Or.inl ⟨by rfl, ?_⟩) hHeld ?_
                    rotate_left
                    · intro w hSw
                      try dsimp only at hSw
                      go_simp
                      try (with_reducible rfl)
                    try simp only [Act.put, List.setIfInBounds_toArray, List.set_cons_zero, List.set_cons_succ]
                    refine wpAnyH_done (by kernel_rfl) ?_ _
                    go_wp2
                    go_roundw
                    case rel => exact ⟨z + 1, by go_num, .inl ⟨by have := HVN.out; omega, rfl⟩, HKR.out.trans (kd.trans hk9)⟩
                    case measure => simp [intOf]; omega
                  | true =>
                    have HVM : RowKit.Hid (decide (((z : Int) + 1) = (Y : Int)) = mt) := Lib.hid (HVD.out.trans (by simp))
                    go_region_held3 (fun W => W.cell? ⟨w.heap.size, 0, none⟩ = some (.slice A n c) ∧ W.cell? ⟨w.heap.size, 1, none⟩ = some (.slice B m d) ∧ W.cell? ⟨fb, fo + i * 6, none⟩ = some (.int .u8 s.s0) ∧ W.cell? ⟨fb, fo + i * 6 + 1, none⟩ = some (.int .u8 s.s1) ∧ W.cell? ⟨fb, fo + i * 6 + 2, none⟩ = some (.int .u8 s.s2) ∧ W.cell? ⟨fb, fo + i * 6 + 3, none⟩ = some (.int .u8 s.s3) ∧ W.cell? ⟨fb, fo + i * 6 + 4, none⟩ = some (.int .u8 s.s4) ∧ W.cell? ⟨fb, fo + i * 6 + 5, none⟩ = some (.int .u8 s.s5) ∧ W.cell? ⟨cb, co + k * 2 + 1, none⟩ = some (.int .i64 x.num) ∧ Kept wr W)
                      (first
                        | (with_reducible exact SC.out _ kd)
                        | (with_reducible exact SC.out _ kk9)
                        | (with_reducible exact SC.out _ kk10)
                        | (with_reducible exact SC.out _ kk11)
                        | fail)
                      (first
                        | (go_at_call 94; with_reducible refine (HFT.out _ kd).mono ?_; rintro e w9 ⟨rfl, hk9⟩; have kk9 : Kept wr w9 := (by with_reducible exact kd.trans hk9))
                        | (go_at_call 118; with_reducible refine (HLS1.out _ kk9).mono ?_; rintro e w10 ⟨A5, c5, rfl, hs5, hk10⟩; have kk10 : Kept wr w10 := (by with_reducible exact kk9.trans hk10))
                        | (go_at_call 116; with_reducible refine (HMT3.out A5 c5 _ kk10 hs5).mono ?_; rintro e w11 ⟨rfl, hk11⟩; have kk11 : Kept wr w11 := (by with_reducible exact kk10.trans hk11))
                        | fail)
                    cases mt with
                    | false =>
                      have HVN : RowKit.Hid (z + 1 ≠ Y) := Lib.hid (by have := of_decide_eq_false HVM.out; omega)
                      all_goals go_wp2
                      all_goals go_roundw
                      case rel => exact ⟨z + 1, by go_num, .inl ⟨by have := HVN.out; omega, rfl⟩, HKR.out.trans kk11⟩
                      case measure => simp [intOf]; omega
                    | true =>
                      have HVN : RowKit.Hid (((z : Int) + 1) = (Y : Int)) := Lib.hid (of_decide_eq_true HVM.out)
                      all_goals go_wp2
                      all_goals go_roundw
                      case rel => exact ⟨z + 1, by go_num, .inr ⟨by have := HVN.out; omega, by rw [HVN.out]⟩, HKR.out.trans kk11⟩
                      case measure => simp [intOf]; omega
            · have hYn : ((z : Int) == 0) = false := by simp; omega
              have HCM := Lib.hid (claimed_any DA u cap L (z : Int) wr (HSL3.out.kept HKR.out))
              rw [HCK.out] at HCM
              have HLS := Lib.hid (rless_any DA u cap L kk xx wr (HSL3.out.kept HKR.out) (by omega) HXX.out HXP.out)
              unfold LsP at HLS
              rw [HLU.out] at HLS
              have HO4 := Lib.hid (own_kept HO3.out HKR.out)
              have HKW := Lib.hid (K3.out.trans HKR.out)
              rcases Int.lt_or_le 40 ((z : Int) + 1) with hz40 | hz40
              · go_wp2_with fail
                refine HCM.out.mono ?_
                rintro e w4 ⟨rfl, rfl⟩
                go_wp2_with fail
                refine HLS.out.mono ?_
                rintro e w5 ⟨A5, c5, rfl, hs5, hk5, hnw⟩
                have HSL5 := Lib.hid hs5
                have HO5 := Lib.hid (own_kept HO4.out hk5)
                have K5 := Lib.hid (HKW.out.trans hk5)
                have HAP5 : RowKit.Hid (∀ g, u12.ownBlock = some g → 0 < u → ∀ b off, A5 = some ⟨b, off, none⟩ → g ≠ b) := Lib.hid (fun g hg h0 b off e => by
                  have h1 := own_lt HO4.out hg
                  have h2 := hnw b off e
                  omega)
                clear hs5 hk5 hnw
                have HNW := Lib.hid (news_of (W := w5) (cs := inC (z : Int)) (t := 3) (m := w5.heap.size) rfl)
                have HA3 : RowKit.Hid (i + 1 ≤ maxLen) := Lib.hid (by unfold maxLen; omega)
                have HA4 : RowKit.Hid ((i + 1) * 8 ≤ 140737488355328) := Lib.hid (by omega)
                have HB1 : RowKit.Hid (W0.heap.size ≤ (w5.alloc (.cells #[.int .i64 (z : Int)] 3)).heap.size) := Lib.hid (by have := K5.out.size; simp; omega)
                go_wp2_with (at_builtin; refine wpList_append_lies _ rfl (.tmp 96) (.tmp 98) 43 rfl W0.heap.size 3 i0 _ 1 8 Tryz.underlying43 hi0 hz0 hz1 hz2 rfl (by decide) _ i _ rfl (own_kept HO5.out ((Kept.refl _).alloc _)) ⟨w5.heap.size, 0, none⟩ 1 1 (inC (z : Int)) rfl rfl HNW.out (fun u hu => by simp [inC] at hu; subst hu; rfl) (by decide) HA3.out HA4.out HB1.out _ rfl ?_; intro g' cap' w6 hown6 hgrow6 hat6 hlt6)
                have HO6 := Lib.hid hown6
                have HK6 := Lib.hid ((K5.out.alloc _).grown hgrow6 (fun r hr => (HO5.out.lt r hr).1))
                have HSL6 := Lib.hid (sla_grown (HSL5.out.kept ((Kept.refl _).alloc _)) hgrow6 (fun h0 b off e e2 => HAP5.out _ e2 h0 b off e rfl))
                have HAP6 : RowKit.Hid (0 < u → ∀ b off, A5 = some ⟨b, off, none⟩ → g' ≠ b) := Lib.hid (fun h0 b off e => by
                  rcases hat6 with h | h
                  · exact HAP5.out _ h h0 b off e
                  · have := sla_lt HSL5.out h0 e
                    rw [h]
                    simp
                    omega)
                clear hown6 hgrow6 hat6 hlt6
                go_roundw
                case rel =>
                  refine ⟨i + 1, A5, c5, (lsC L kk), by omega, by go_num, rfl, ⟨⟨HSL6.out, HLF.out, ?_, ?_, HK6.out⟩, fun g hg h0 b off e => by simp [Value.ownBlock] at hg; rw [← hg]; exact HAP6.out h0 b off e⟩⟩
                  · rw [HZ.out.2.2.1, List.flatMap_append, List.flatMap_singleton]
                    exact HO6.out
                  · rw [fitsN_drop, ← HZ.out.2.1]
                    exact HFB.out
                case measure => simp [intOf]; omega
              · go_wp2_with fail
                refine HCM.out.mono ?_
                rintro e w4 ⟨rfl, rfl⟩
                go_wp2_with fail
                refine HLS.out.mono ?_
                rintro e w5 ⟨A5, c5, rfl, hs5, hk5, hnw⟩
                have HSL5 := Lib.hid hs5
                have HO5 := Lib.hid (own_kept HO4.out hk5)
                have K5 := Lib.hid (HKW.out.trans hk5)
                have HAP5 : RowKit.Hid (∀ g, u12.ownBlock = some g → 0 < u → ∀ b off, A5 = some ⟨b, off, none⟩ → g ≠ b) := Lib.hid (fun g hg h0 b off e => by
                  have h1 := own_lt HO4.out hg
                  have h2 := hnw b off e
                  omega)
                clear hs5 hk5 hnw
                have HNW := Lib.hid (news_of (W := w5) (cs := inC (z : Int)) (t := 3) (m := w5.heap.size) rfl)
                have HA3 : RowKit.Hid (i + 1 ≤ maxLen) := Lib.hid (by unfold maxLen; omega)
                have HA4 : RowKit.Hid ((i + 1) * 8 ≤ 140737488355328) := Lib.hid (by omega)
                have HB1 : RowKit.Hid (W0.heap.size ≤ (w5.alloc (.cells #[.int .i64 (z : Int)] 3)).heap.size) := Lib.hid (by have := K5.out.size; simp; omega)
                go_wp2_with (at_builtin; refine wpList_append_lies _ rfl (.tmp 96) (.tmp 98) 43 rfl W0.heap.size 3 i0 _ 1 8 Tryz.underlying43 hi0 hz0 hz1 hz2 rfl (by decide) _ i _ rfl (own_kept HO5.out ((Kept.refl _).alloc _)) ⟨w5.heap.size, 0, none⟩ 1 1 (inC (z : Int)) rfl rfl HNW.out (fun u hu => by simp [inC] at hu; subst hu; rfl) (by decide) HA3.out HA4.out HB1.out _ rfl ?_; intro g' cap' w6 hown6 hgrow6 hat6 hlt6)
                have HO6 := Lib.hid hown6
                have HK6 := Lib.hid ((K5.out.alloc _).grown hgrow6 (fun r hr => (HO5.out.lt r hr).1))
                have HSL6 := Lib.hid (sla_grown (HSL5.out.kept ((Kept.refl _).alloc _)) hgrow6 (fun h0 b off e e2 => HAP5.out _ e2 h0 b off e rfl))
                have HAP6 : RowKit.Hid (0 < u → ∀ b off, A5 = some ⟨b, off, none⟩ → g' ≠ b) := Lib.hid (fun h0 b off e => by
                  rcases hat6 with h | h
                  · exact HAP5.out _ h h0 b off e
                  · have := sla_lt HSL5.out h0 e
                    rw [h]
                    simp
                    omega)
                clear hown6 hgrow6 hat6 hlt6
                go_roundw
                case rel =>
                  refine ⟨i + 1, A5, c5, (lsC L kk), by omega, by go_num, rfl, ⟨⟨HSL6.out, HLF.out, ?_, ?_, HK6.out⟩, fun g hg h0 b off e => by simp [Value.ownBlock] at hg; rw [← hg]; exact HAP6.out h0 b off e⟩⟩
                  · rw [HZ.out.2.2.1, List.flatMap_append, List.flatMap_singleton]
                    exact HO6.out
                  · rw [fitsN_drop, ← HZ.out.2.1]
                    exact HFB.out
                case measure => simp [intOf]; omega
      · obtain rfl : i = p := by omega
        have HOO := Lib.hid HJ.out.I.out
        have htk : ow.take i = ow := List.take_of_length_le (by rw [HOL.out]; exact Nat.le_refl _)
        obtain ⟨A5, c5, rfl, hia⟩ := own_ia (by rw [← htk] ; exact HOO.out) HOL.out (by omega)
        have HIA := Lib.hid hia
        have HKF := Lib.hid HJ.out.I.kept
        clear hia htk
        go_wp2_with fail
        go_ret3
        exact ⟨.inr ⟨HE.out, .inr ⟨ow, A5, i, c5, HOW.out, by rfl, HIA.out⟩⟩, K0.out.trans HKF.out⟩

end Go.Proofs.YtologmoanaccpaaGreatDoor
