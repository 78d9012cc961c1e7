/- ShareDivides: the law -/
import Derived.Test.YtcjpecdnenemaaaGreatDoorDh2
import Derived.Test.YtcjpecdnenemaaaGreatDoorDw3
import Derived.Test.YtcjpecdnenemaaaGreatDoorOw
namespace Go.Proofs.YtcjpecdnenemaaaGreatDoor
set_option linter.all false
open Go.RowKit Go.Shelf Go.Sort

theorem divS_nil {sn sd : Int} {zs : List Int} (h : (divS sn sd zs).2 ≠ 0) : (divS sn sd zs).1 = [] := by
  unfold divS at h ⊢
  dsimp only at h ⊢
  by_cases he : (sumOfS zs (vld sn sd && decide (0 ≤ sn))).2 = 0
  · rw [if_pos he] at h ⊢
    by_cases hE : shareE sn sd (sumOfS zs (vld sn sd && decide (0 ≤ sn))).1 zs = 0
    · rw [if_pos hE] at h; exact absurd rfl h
    · rw [if_neg hE]
  · rw [if_neg he]
theorem fracs_none (w : World) : FracsA w none 0 0 [] := ⟨rfl, Nat.le_refl _, by omega, fun h => absurd h (by omega)⟩
theorem ints_none (w : World) : IntsA w none 0 0 [] := ⟨rfl, Nat.le_refl _, by omega, (fun z hz => by cases hz), fun h => absurd h (by omega)⟩
theorem fracs_rowD {w : World} {g n : Nat} {es : List (Int × Int)} (hn : es.length = n) (hm : n ≤ 1000) (h : RowC w g (fl2 es)) : FracsA w (some ⟨g, 0, none⟩) n n es :=
  ⟨hn, Nat.le_refl _, by omega, fun _ => ⟨g, 0, rfl, fun i p hp => by
    obtain ⟨h1, h2⟩ := fl2_at hp
    rw [Nat.zero_add]
    exact ⟨(h _ _ h1).1, (h _ _ h2).1⟩⟩⟩
def DivP (w : World) (r : List (Int × Int) × Int) (e : Ending) (w' : World) : Prop :=
  ∃ A c, e = .returned (.tuple #[.slice A r.1.length c, .int .i64 r.2]) ∧ FracsA w' A r.1.length c r.1 ∧ Kept w w'
theorem d70 (A : Option Addr) (n c : Nat) (zs : List Int) (sn sd : Int) (w : World) (h : IntsA w A n c zs) :
    Calls Tryz.prog 70 #[.agg #[.int .i64 sn, .int .i64 sd], .slice A n c] w (DivP w (divS sn sd zs)) := by
  refine (divide_any A n c zs sn sd w h).mono fun e w' hh => ?_
  obtain ⟨hh, hk⟩ := hh
  rcases hh with ⟨h1, he⟩ | ⟨h1, g, he, _, hr⟩
  · refine ⟨none, 0, ?_, ?_, hk⟩
    · rw [divS_nil h1]; exact he
    · rw [divS_nil h1]; exact fracs_none _
  · obtain ⟨_, _, _, h40, _, _, hL, _⟩ := div_ok h1
    have e1 : (divS sn sd zs).1.length ≤ 1000 := by rw [hL]; unfold shareL; rw [List.length_map]; omega
    exact ⟨_, _, by rw [h1]; exact he, fracs_rowD rfl e1 hr, hk⟩
theorem d71 (A : Option Addr) (n c : Nat) (zs : List Int) (sn sd : Int) (w : World) (h : IntsA w A n c zs) :
    Calls Tryz.prog 71 #[.agg #[.int .i64 sn, .int .i64 sd], .slice A n c] w (DivP w (divS sn sd zs)) := by
  by_cases he : (sumOfS zs (vld sn sd && decide (0 ≤ sn))).2 = 0
  · obtain ⟨hd, hp, h40, hs, hpos, hsb⟩ := sumOf_ok he
    simp only [Bool.and_eq_true, decide_eq_true_eq] at hd
    have h0 : (sumOfS zs true).2 = 0 := by rw [hd.1] at he; rw [decide_eq_true hd.2] at he; exact he
    refine (rdivide_go A n c zs sn sd zs.sum w h hd.1 hd.2 h0 rfl).mono fun e w' hh => ?_
    obtain ⟨hh, hk⟩ := hh
    have e0 : divS sn sd zs = if shareE sn sd zs.sum zs = 0 then (shareL sn sd zs.sum zs, 0) else ([], shareE sn sd zs.sum zs) := by
      unfold divS; dsimp only; rw [if_pos he, hs]
    rcases hh with ⟨h1, he1⟩ | ⟨h1, B, d, he1, hf⟩
    · rw [e0, if_neg h1]
      exact ⟨none, 0, he1, fracs_none _, hk⟩
    · rw [e0, if_pos h1]
      have e1 : (shareL sn sd zs.sum zs).length = n := by unfold shareL; rw [List.length_map, h.1]
      refine ⟨B, d, ?_, ?_, hk⟩
      · dsimp only; rw [e1]; exact he1
      · dsimp only; rw [e1]; exact hf
  · refine (rdivide_err A n c zs sn sd _ w h rfl he).mono fun e w' hh => ?_
    obtain ⟨he1, hk⟩ := hh
    have e0 : divS sn sd zs = ([], (sumOfS zs (vld sn sd && decide (0 ≤ sn))).2) := by
      unfold divS; dsimp only; rw [if_neg he]
    rw [e0]
    exact ⟨none, 0, he1, fracs_none _, hk⟩
/-- what Whole gives by an order -/
def wsel (total : Int) (zs : List Int) (Z : List Nat) : List Int := if (sumOfS zs (inB total 0 1000000000)).2 = 0 then bump (flS total zs.sum zs) (Z.take (total - (flS total zs.sum zs).sum).toNat) else []
def ZOk (total : Int) (zs : List Int) (Z : List Nat) : Prop := (sumOfS zs (inB total 0 1000000000)).2 = 0 → Z.Perm (List.range zs.length) ∧ Z.Pairwise (ltC total zs.sum zs)
def WhP (w : World) (total : Int) (zs : List Int) (Z : List Nat) (e : Ending) (w' : World) : Prop :=
  ∃ A c, e = .returned (.tuple #[.slice A (wsel total zs Z).length c, .int .i64 (sumOfS zs (inB total 0 1000000000)).2]) ∧ IntsA w' A (wsel total zs Z).length c (wsel total zs Z) ∧ Kept w w'
def WhZ (w : World) (total : Int) (zs : List Int) (e : Ending) (w' : World) : Prop := ∃ Z, ZOk total zs Z ∧ WhP w total zs Z e w'
theorem wsel_bd {total : Int} {zs : List Int} (Z : List Nat) (h : (sumOfS zs (inB total 0 1000000000)).2 = 0) (hz : ZOk total zs Z) : wsel total zs Z = bump (flS total zs.sum zs) (Z.take (total - (flS total zs.sum zs).sum).toNat) ∧ (wsel total zs Z).length = zs.length ∧ BdI (wsel total zs Z) 2000000000000 := by
  obtain ⟨htot, hpart, h40, _, hpos, hsb⟩ := sumOf_ok h
  have htb := inB_iff.1 htot
  have e0 : wsel total zs Z = bump (flS total zs.sum zs) (Z.take (total - (flS total zs.sum zs).sum).toNat) := by unfold wsel; rw [if_pos h]
  have hfb : BdI (flS total zs.sum zs) 1000000000000 := by
    intro v hv
    unfold flS at hv
    rw [List.mem_map] at hv
    obtain ⟨z, hz, rfl⟩ := hv
    obtain ⟨q, hq⟩ := List.getElem?_of_mem hz
    obtain ⟨z0, z1⟩ := part_in hpart hq
    exact fl_one htb.1 htb.2 z0 z1 hpos
  have hzl : Z.length = zs.length := by rw [(hz h).1.length_eq, List.length_range]
  refine ⟨e0, ?_, ?_⟩
  · rw [e0, bump_len]; unfold flS; rw [List.length_map]
  · rw [e0]
    intro v hv
    have := bump_bd hfb _ v hv
    rw [List.length_take] at this
    omega
theorem w72 (A : Option Addr) (n c : Nat) (zs : List Int) (total : Int) (w : World) (h : IntsA w A n c zs) :
    Calls Tryz.prog 72 #[.int .i64 total, .slice A n c] w (WhZ w total zs) := by
  refine (whole_all A n c zs total w h).mono fun e w' hh => ?_
  obtain ⟨hh, hk⟩ := hh
  rcases hh with ⟨h1, he⟩ | ⟨h1, g, Z, he, _, hw, hp, hr⟩
  · refine ⟨[], fun h => absurd h h1, ?_⟩
    have e0 : wsel total zs [] = [] := by unfold wsel; rw [if_neg h1]
    unfold WhP
    rw [e0]
    exact ⟨none, 0, he, ints_none _, hk⟩
  · obtain ⟨_, _, h40, _⟩ := sumOf_ok h1
    refine ⟨Z, fun _ => ⟨hp, hw⟩, ?_⟩
    obtain ⟨e0, e1, e2⟩ := wsel_bd Z h1 (fun _ => ⟨hp, hw⟩)
    unfold WhP
    rw [h1]
    rw [← e0] at hr
    refine ⟨_, zs.length, by rw [e1]; exact he, ints_row (by omega) rfl (by rw [e1]; exact Nat.le_refl _) (by unfold maxLen; omega) e2 hr, hk⟩
theorem w73 (A : Option Addr) (n c : Nat) (zs : List Int) (total : Int) (Z : List Nat) (hZ : ZOk total zs Z) (w : World) (h : IntsA w A n c zs) :
    Calls Tryz.prog 73 #[.int .i64 total, .slice A n c] w (WhP w total zs Z) := by
  by_cases h1 : (sumOfS zs (inB total 0 1000000000)).2 = 0
  · obtain ⟨e0, e1, e2⟩ := wsel_bd Z h1 hZ
    refine (rwhole_yes A n c zs total zs.sum Z rfl h1 (hZ h1).1 (hZ h1).2 w h).mono fun e w' hh => ?_
    obtain ⟨⟨g, cap, he, hc, hm, hr⟩, hk⟩ := hh
    unfold WhP
    rw [h1]
    rw [← e0] at hr
    have e3 : (wsel total zs Z).length = n := by rw [e1, h.1]
    exact ⟨_, cap, by rw [e3]; exact he, ints_row (by omega) rfl (by rw [e3]; exact hc) hm e2 hr, hk⟩
  · refine (rwhole_err A n c zs total _ w h rfl h1).mono fun e w' hh => ?_
    have e0 : wsel total zs Z = [] := by unfold wsel; rw [if_neg h1]
    unfold WhP
    rw [e0]
    exact ⟨none, 0, hh.1, ints_none _, hh.2⟩
set_option maxRecDepth 100000 in
set_option maxHeartbeats 6400000 in
theorem divides_any (sn sd total : Int) (A : Option Addr) (n c : Nat) (zs : List Int) (w : World) (hE : Env w) (hI : IntsA w A n c zs) :
    Calls Tryz.prog 10 #[.agg #[.int .i64 sn, .int .i64 sd], .int .i64 total, .slice A n c] w fun e w' => e = .returned (.bool true) ∧ Kept w w' := by
  obtain ⟨W0, hW0⟩ : ∃ W0, W0 = w.alloc (.cells #[.int .i64 sn, .int .i64 sd] 23) := ⟨_, rfl⟩
  have K0 : RowKit.Hid (Kept w W0) := Lib.hid (by rw [hW0]; exact (Kept.refl _).alloc _)
  have R0 : RowKit.Hid (RowC W0 w.heap.size [.int .i64 sn, .int .i64 sd]) := Lib.hid (by rw [hW0]; exact RowC.new w [.int .i64 sn, .int .i64 sd] 23)
  have HW := Lib.hid hW0
  have HI := Lib.hid (hI.kept K0.out)
  have HE := Lib.hid (hE.kept K0.out)
  have a0 := (R0.out 0 _ rfl).1
  have a1 := (R0.out 1 _ rfl).1
  have la := cell_lt a0
  have hnc := hI.2.1
  have hcm := hI.2.2.1
  clear hW0 hI hE
  by_cases h60 : 60 < n
  · go_enter Tryz.func10, Tryz.ntmps10
    go_upto_region 1 with (fail)
    rw [← HW.out]
    go_wp2_with fail
    refine (alive_any _ HE.out).mono ?_
    rintro e w1 ⟨rfl, hk1⟩
    go_wp2
    go_ret
    exact ⟨rfl, K0.out.trans hk1⟩
  · obtain ⟨⟨es, E⟩, hr⟩ : ∃ r, divS sn sd zs = r := ⟨_, rfl⟩
    obtain ⟨F, hF⟩ : ∃ F, (sumOfS zs (inB total 0 1000000000)).2 = F := ⟨_, rfl⟩
    have HR := Lib.hid hr
    have HF := Lib.hid hF
    have H70 : RowKit.Hid (∀ W, Kept W0 W → Calls Tryz.prog 70 #[.agg #[.int .i64 sn, .int .i64 sd], .slice A n c] W (DivP W (es, E))) := Lib.hid (fun W hW => by rw [← HR.out]; exact d70 A n c zs sn sd W (HI.out.kept hW))
    have H71 : RowKit.Hid (∀ W, Kept W0 W → Calls Tryz.prog 71 #[.agg #[.int .i64 sn, .int .i64 sd], .slice A n c] W (DivP W (es, E))) := Lib.hid (fun W hW => by rw [← HR.out]; exact d71 A n c zs sn sd W (HI.out.kept hW))
    have H72 : RowKit.Hid (∀ W, Kept W0 W → Calls Tryz.prog 72 #[.int .i64 total, .slice A n c] W (WhZ W total zs)) := Lib.hid (fun W hW => w72 A n c zs total W (HI.out.kept hW))
    have H73 : RowKit.Hid (∀ Z, ZOk total zs Z → ∀ W, Kept W0 W → Calls Tryz.prog 73 #[.int .i64 total, .slice A n c] W (WhP W total zs Z)) := Lib.hid (fun Z hZ W hW => w73 A n c zs total Z hZ W (HI.out.kept hW))
    clear hr hF
    go_enter Tryz.func10, Tryz.ntmps10
    go_upto_region 1 with (fail)
    rw [← HW.out]
    go_wp2_with fail
    refine (H70.out _ (Kept.refl _)).mono ?_
    rintro e w1 ⟨A1, c1, rfl, hf1, hk1⟩
    have K1 := Lib.hid hk1
    have HF1 := Lib.hid hf1
    have b0 := (R0.out.kept hk1 0 _ rfl).1
    have b1 := (R0.out.kept hk1 1 _ rfl).1
    have lb := cell_lt b0
    clear hk1 hf1 a0 a1 la
    go_wp2_with fail
    refine (H71.out _ K1.out).mono ?_
    rintro e w2 ⟨A2, c2, rfl, hf2, hk2⟩
    have K2 := Lib.hid (K1.out.trans hk2)
    have HF2 := Lib.hid hf2
    have HG1 := Lib.hid (HF1.out.kept hk2)
    clear hk2 hf2 b0 b1 lb
    go_wp2_with fail
    refine (H72.out _ K2.out).mono ?_
    rintro e w3 ⟨Z, hZ, A3, c3, rfl, hi3, hk3⟩
    have HZ := Lib.hid hZ
    obtain ⟨ws, hws⟩ : ∃ ws, wsel total zs Z = ws := ⟨_, rfl⟩
    have HWS := Lib.hid hws
    have H73' : RowKit.Hid (∀ W, Kept W0 W → Calls Tryz.prog 73 #[.int .i64 total, .slice A n c] W fun e w' => ∃ A c, e = .returned (.tuple #[.slice A ws.length c, .int .i64 F]) ∧ IntsA w' A ws.length c ws ∧ Kept W w') := Lib.hid (fun W hW => by
      have := H73.out Z HZ.out W hW
      unfold WhP at this
      rw [HWS.out, HF.out] at this
      exact this)
    rw [hws] at hi3
    rw [hws, HF.out]
    have K3 := Lib.hid (K2.out.trans hk3)
    have HI3 := Lib.hid hi3
    have HG2 := Lib.hid (HF2.out.kept hk3)
    have HG3 := Lib.hid (HG1.out.kept hk3)
    clear hk3 hi3 hZ hws
    go_wp2_with fail
    refine (H73'.out _ K3.out).mono ?_
    rintro e w4 ⟨A4, c4, rfl, hi4, hk4⟩
    have K4 := Lib.hid (K3.out.trans hk4)
    have HI4 := Lib.hid hi4
    have HI5 := Lib.hid (HI3.out.kept hk4)
    have HG4 := Lib.hid (HG2.out.kept hk4)
    have HG5 := Lib.hid (HG3.out.kept hk4)
    have eE : (E == E) = true := by simp
    have eF : (F == F) = true := by simp
    clear hk4 hi4
    go_wp2_with fail
    refine (alive_any _ (HE.out.kept K4.out)).mono ?_
    rintro e w5 ⟨rfl, hk5⟩
    have HI6 := Lib.hid (HI4.out.kept hk5)
    have HI7 := Lib.hid (HI5.out.kept hk5)
    have HG6 := Lib.hid (HG4.out.kept hk5)
    have HG7 := Lib.hid (HG5.out.kept hk5)
    have K5 := Lib.hid (K4.out.trans hk5)
    clear hk5
    go_wp2_with fail
    refine (sameFracs_any A1 A2 _ c1 c2 es w5 HG7.out HG6.out).mono ?_
    rintro e w6 ⟨rfl, hk6⟩
    have HI8 := Lib.hid (HI6.out.kept hk6)
    have HI9 := Lib.hid (HI7.out.kept hk6)
    have K6 := Lib.hid (K5.out.trans hk6)
    clear hk6
    go_wp2_with fail
    refine (e53 A3 A4 _ c3 c4 ws w6 HI9.out HI8.out).mono ?_
    rintro e w7 ⟨rfl, hk7⟩
    go_wp2
    go_ret
    exact ⟨rfl, K0.out.trans (K6.out.trans hk7)⟩
end Go.Proofs.YtcjpecdnenemaaaGreatDoor
