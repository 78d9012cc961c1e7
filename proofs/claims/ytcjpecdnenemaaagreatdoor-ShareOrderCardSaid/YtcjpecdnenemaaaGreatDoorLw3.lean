/-
  ShareOrder: the law's function returns true, whatever its arguments.
-/
import Derived.Test.YtcjpecdnenemaaaGreatDoorLw2
import Derived.Deep.DeepCutAuto
namespace Go.Proofs.YtcjpecdnenemaaaGreatDoor
set_option linter.all false
open Go.RowKit Go.Shelf

theorem cmpS_vld {an ad bn bd : Int} (ha : vld an ad = true) (hb : vld bn bd = true) : cmpS an ad bn bd = cmpI an ad bn bd := by
  unfold cmpS; rw [ha, hb]; rfl
theorem take_at {P : Program} {ops : Array Oper} {Q : Exit → Act → World → Prop} {md : Region.Mode} {S : World → Prop} {i : Nat} {oi : Oper} {d : Option Tmp} {v : Value} {fuel : Nat} {listed : Array Bool} {a : Act} {w : World} (hi : ops[i]? = some oi) (hd : oi.dst = d)
    (hs : Region.noSelect ops = true) (hf : Region.free md ops listed i = true) (hr : (Region.ready md ops listed).contains i = true)
    (hQ : ∀ c a w, Q (.panic c) (a.put oi.dst v) w → Q (.panic c) a w) (hy : YieldsIf P ops S oi v a) (hS : S w)
    (h : wpAnyH P md ops Q S fuel (listed.setIfInBounds i true) (a.put d v) w) : wpAnyH P md ops Q S (fuel + 1) listed a w := by
  subst hd
  exact wpAnyH_take hi hs hf hr hQ hy hS h
theorem Fx.left {L M : List (Nat × Int × Int)} {W : World} (h : Fx (L ++ M) W) : Fx L W := fun i b x y hi => h i b x y (by rw [List.getElem?_append_left (List.getElem?_eq_some_iff.1 hi).1]; exact hi)
theorem SQ_of {V W w : World} {b : Nat} {x y : Int} (h1 : V.cell? ⟨b, 0, none⟩ = some (.int .i64 x)) (h2 : V.cell? ⟨b, 1, none⟩ = some (.int .i64 y)) (hE : Env V) (hk : Kept V W) :
    W.cell? ⟨b, 0, none⟩ = some (.int .i64 x) ∧ W.cell? ⟨b, 1, none⟩ = some (.int .i64 y) ∧ Env W ∧ Kept V W :=
  ⟨(hk.cells _ _ (cell_lt h1)).trans h1, (hk.cells _ _ (cell_lt h2)).trans h2, hE.kept hk, hk⟩
theorem SQ_step {V W W' : World} {b : Nat} {x y : Int} (h : W.cell? ⟨b, 0, none⟩ = some (.int .i64 x) ∧ W.cell? ⟨b, 1, none⟩ = some (.int .i64 y) ∧ Env W ∧ Kept V W) (hk : Kept W W') :
    W'.cell? ⟨b, 0, none⟩ = some (.int .i64 x) ∧ W'.cell? ⟨b, 1, none⟩ = some (.int .i64 y) ∧ Env W' ∧ Kept V W' :=
  ⟨(hk.cells _ _ (cell_lt h.1)).trans h.1, (hk.cells _ _ (cell_lt h.2.1)).trans h.2.1, h.2.2.1.kept hk, h.2.2.2.trans hk⟩
theorem SQ_env {V W : World} {b : Nat} {x y : Int} (h : W.cell? ⟨b, 0, none⟩ = some (.int .i64 x) ∧ W.cell? ⟨b, 1, none⟩ = some (.int .i64 y) ∧ Env W ∧ Kept V W) : Env W := h.2.2.1
set_option maxRecDepth 100000 in
set_option maxHeartbeats 3200000 in
theorem order_any (an ad bn bd cn cd : Int) (ha1 : -9223372036854775808 ≤ an) (ha2 : an ≤ 9223372036854775807) (w : World) (hE : Env w) :
    Calls Tryz.prog 12 #[.agg #[.int .i64 an, .int .i64 ad], .agg #[.int .i64 bn, .int .i64 bd], .agg #[.int .i64 cn, .int .i64 cd]] w fun e w' => e = .returned (.bool true) ∧ Kept w w' := by
  have HE := Lib.hid hE
  have F0 := Lib.hid (Fx.three w an ad bn bd cn cd)
  have K0 := Lib.hid ((((Kept.refl w).alloc (.cells #[.int .i64 an, .int .i64 ad] 23)).alloc (.cells #[.int .i64 bn, .int .i64 bd] 23)).alloc (.cells #[.int .i64 cn, .int .i64 cd] 23))
  have V1 := Lib.hid (fun W => lvalid_any an ad W)
  have V2 := Lib.hid (fun W => lvalid_any bn bd W)
  have V3 := Lib.hid (fun W => lvalid_any cn cd W)
  clear hE
  rcases va : vld an ad with _ | _
  · rw [va] at V1
    go_enter Tryz.func12, Tryz.ntmps12
    go_wp2_with fail
    refine (V1.out _).mono ?_
    rintro e w1 ⟨rfl, hk⟩
    go_wp2_with fail
    refine (alive_any _ (HE.out.kept (K0.out.trans hk))).mono ?_
    rintro e w2 ⟨rfl, hk2⟩
    go_wp2_with fail
    go_ret
    exact ⟨rfl, (K0.out.trans hk).trans hk2⟩
  rcases vb : vld bn bd with _ | _
  · rw [va] at V1
    rw [vb] at V2
    go_enter Tryz.func12, Tryz.ntmps12
    go_wp2_with fail
    refine (V1.out _).mono ?_
    rintro e w1 ⟨rfl, hk⟩
    have F1 := Lib.hid (F0.out.kept hk)
    have g0 := F1.out.at0 1 rfl
    have g1 := F1.out.at1 1 rfl
    go_wp2_with fail
    refine (V2.out _).mono ?_
    rintro e w2 ⟨rfl, hk2⟩
    have k2 := Lib.hid ((K0.out.trans hk).trans hk2)
    clear g0 g1
    go_wp2_with fail
    refine (alive_any _ (HE.out.kept k2.out)).mono ?_
    rintro e w3 ⟨rfl, hk3⟩
    go_wp2_with fail
    go_ret
    exact ⟨rfl, k2.out.trans hk3⟩
  rcases vc : vld cn cd with _ | _
  · rw [va] at V1
    rw [vb] at V2
    rw [vc] at V3
    go_enter Tryz.func12, Tryz.ntmps12
    go_wp2_with fail
    refine (V1.out _).mono ?_
    rintro e w1 ⟨rfl, hk⟩
    have F1 := Lib.hid (F0.out.kept hk)
    have g0 := F1.out.at0 1 rfl
    have g1 := F1.out.at1 1 rfl
    go_wp2_with fail
    refine (V2.out _).mono ?_
    rintro e w2 ⟨rfl, hk2⟩
    have k2 := Lib.hid ((K0.out.trans hk).trans hk2)
    have F2 := Lib.hid (F1.out.kept hk2)
    clear g0 g1
    have g0 := F2.out.at0 2 rfl
    have g1 := F2.out.at1 2 rfl
    go_wp2_with fail
    refine (V3.out _).mono ?_
    rintro e w3 ⟨rfl, hk3⟩
    have k3 := Lib.hid (k2.out.trans hk3)
    clear g0 g1
    go_wp2_with fail
    refine (alive_any _ (HE.out.kept k3.out)).mono ?_
    rintro e w4 ⟨rfl, hk4⟩
    go_wp2_with fail
    go_ret
    exact ⟨rfl, k3.out.trans hk4⟩
  obtain ⟨m, hm⟩ : ∃ m, cmpI an ad bn bd = m := ⟨_, rfl⟩
  have C1 := Lib.hid (fun W => compare_any an ad bn bd W)
  rw [cmpS_vld va vb, hm] at C1
  have HM := Lib.hid hm
  rw [va] at V1
  rw [vb] at V2
  rw [vc] at V3
  have VA := Lib.hid va
  have VB := Lib.hid vb
  have VC := Lib.hid vc
  clear va vb vc hm
  go_enter Tryz.func12, Tryz.ntmps12
  go_wp2_with fail
  refine (V1.out _).mono ?_
  rintro e w1 ⟨rfl, hk⟩
  have F1 := Lib.hid (F0.out.kept hk)
  have g0 := F1.out.at0 1 rfl
  have g1 := F1.out.at1 1 rfl
  have k1 := Lib.hid (K0.out.trans hk)
  clear hk
  go_wp2_with fail
  refine (V2.out _).mono ?_
  rintro e w2 ⟨rfl, hk2⟩
  have k2 := Lib.hid (k1.out.trans hk2)
  have F2 := Lib.hid (F1.out.kept hk2)
  clear g0 g1 hk2
  have g0 := F2.out.at0 2 rfl
  have g1 := F2.out.at1 2 rfl
  go_wp2_with fail
  refine (V3.out _).mono ?_
  rintro e w3 ⟨rfl, hk3⟩
  have k3 := Lib.hid (k2.out.trans hk3)
  have F3 := Lib.hid (F2.out.kept hk3)
  clear g0 g1 hk3
  have g0 := F3.out.at0 0 rfl
  have g1 := F3.out.at1 0 rfl
  have g2 := F3.out.at0 1 rfl
  have g3 := F3.out.at1 1 rfl
  go_wp2_with fail
  refine (C1.out _).mono ?_
  rintro e w4 ⟨rfl, hk4⟩
  have k4 := Lib.hid (k3.out.trans hk4)
  have F4 := Lib.hid (F3.out.kept hk4)
  clear g0 g1 g2 g3 hk4
  go_upto_region 4 with fail
  go_cut [69] (fun s69 wx => s69 = .bool false ∧ Kept w wx ∧ Fx [(w.heap.size, an, ad), (w.heap.size + 1, bn, bd), (w.heap.size + 1 + 1, cn, cd)] wx)
  case first =>
    rcases cmp_range an ad bn bd with h | h | h
    · rw [HM.out] at h
      subst h
      by_cases e1 : an = bn
      · have hd : ¬ ad = bd := by
          intro hd
          have := HM.out
          rw [e1, hd, cmp_zero.2 rfl] at this
          exact absurd this (by decide)
        subst e1
        rcases cmp_range an bd cn cd with hp | hp | hp
        · have C3 := Lib.hid (fun W => compare_any an bd cn cd W)
          rw [cmpS_vld VB.out VC.out, hp] at C3
          have hq := cmp_trans (vld_pos VA.out) (vld_pos VB.out) (vld_pos VC.out) (show cmpI an ad an bd ≤ 0 by rw [HM.out]; decide) (show cmpI an bd cn cd ≤ 0 by rw [hp]; decide)
          have C4 := fun W => compare_any an ad cn cd W
          rw [cmpS_vld VA.out VC.out] at C4
          rcases cmp_range an ad cn cd with hq2 | hq2 | hq2
          · rw [hq2] at C4
            replace C4 := Lib.hid C4
            clear hp hq hq2
            have e2 : cmpS an bd an ad = 1 := by rw [cmpS_vld VB.out VA.out, cmp_swap an ad an bd, HM.out]; try rfl
            have C2 := Lib.hid (fun W => compare_any an bd an ad W)
            rw [e2] at C2
            clear e2
            have g0 := F4.out.at0 1 rfl
            have g1 := F4.out.at1 1 rfl
            have g2 := F4.out.at0 0 rfl
            have g3 := F4.out.at1 0 rfl
            go_wp2_with fail
            refine (C2.out _).mono ?_
            rintro e w5 ⟨rfl, hk5⟩
            have k5 := Lib.hid (k4.out.trans hk5)
            have F5 := Lib.hid (F4.out.kept hk5)
            clear g0 g1 g2 g3 hk5
            have g0 := F5.out.at0 0 rfl
            have g1 := F5.out.at1 0 rfl
            have g2 := F5.out.at0 1 rfl
            have g3 := F5.out.at1 1 rfl
            have g4 := F5.out.at0 2 rfl
            have g5 := F5.out.at1 2 rfl
            go_wp2_with fail
            refine (C3.out _).mono ?_
            rintro e w6 ⟨rfl, hk6⟩
            have k6 := Lib.hid (k5.out.trans hk6)
            have F6 := Lib.hid (F5.out.kept hk6)
            clear g0 g1 g2 g3 g4 g5 hk6
            have g0 := F6.out.at0 0 rfl
            have g1 := F6.out.at1 0 rfl
            have g2 := F6.out.at0 2 rfl
            have g3 := F6.out.at1 2 rfl
            go_wp2_with fail
            refine (C4.out _).mono ?_
            rintro e w7 ⟨rfl, hk7⟩
            have k7 := Lib.hid (k6.out.trans hk7)
            have F7 := Lib.hid (F6.out.kept hk7)
            clear g0 g1 g2 g3 hk7
            have g0 := F7.out.at0 0 rfl
            have g1 := F7.out.at1 0 rfl
            have g2 := F7.out.at0 2 rfl
            have g3 := F7.out.at1 2 rfl
            go_wp2_with fail
            go_meet
            exact ⟨rfl, k7.out, F7.out⟩
          · rw [hq2] at C4
            replace C4 := Lib.hid C4
            clear hp hq hq2
            have e2 : cmpS an bd an ad = 1 := by rw [cmpS_vld VB.out VA.out, cmp_swap an ad an bd, HM.out]; try rfl
            have C2 := Lib.hid (fun W => compare_any an bd an ad W)
            rw [e2] at C2
            clear e2
            have g0 := F4.out.at0 1 rfl
            have g1 := F4.out.at1 1 rfl
            have g2 := F4.out.at0 0 rfl
            have g3 := F4.out.at1 0 rfl
            go_wp2_with fail
            refine (C2.out _).mono ?_
            rintro e w5 ⟨rfl, hk5⟩
            have k5 := Lib.hid (k4.out.trans hk5)
            have F5 := Lib.hid (F4.out.kept hk5)
            clear g0 g1 g2 g3 hk5
            have g0 := F5.out.at0 0 rfl
            have g1 := F5.out.at1 0 rfl
            have g2 := F5.out.at0 1 rfl
            have g3 := F5.out.at1 1 rfl
            have g4 := F5.out.at0 2 rfl
            have g5 := F5.out.at1 2 rfl
            go_wp2_with fail
            refine (C3.out _).mono ?_
            rintro e w6 ⟨rfl, hk6⟩
            have k6 := Lib.hid (k5.out.trans hk6)
            have F6 := Lib.hid (F5.out.kept hk6)
            clear g0 g1 g2 g3 g4 g5 hk6
            have g0 := F6.out.at0 0 rfl
            have g1 := F6.out.at1 0 rfl
            have g2 := F6.out.at0 2 rfl
            have g3 := F6.out.at1 2 rfl
            go_wp2_with fail
            refine (C4.out _).mono ?_
            rintro e w7 ⟨rfl, hk7⟩
            have k7 := Lib.hid (k6.out.trans hk7)
            have F7 := Lib.hid (F6.out.kept hk7)
            clear g0 g1 g2 g3 hk7
            have g0 := F7.out.at0 0 rfl
            have g1 := F7.out.at1 0 rfl
            have g2 := F7.out.at0 2 rfl
            have g3 := F7.out.at1 2 rfl
            go_wp2_with fail
            go_meet
            exact ⟨rfl, k7.out, F7.out⟩
          · rw [hq2] at hq; exact absurd hq (by decide)
        · have C3 := Lib.hid (fun W => compare_any an bd cn cd W)
          rw [cmpS_vld VB.out VC.out, hp] at C3
          have hq := cmp_trans (vld_pos VA.out) (vld_pos VB.out) (vld_pos VC.out) (show cmpI an ad an bd ≤ 0 by rw [HM.out]; decide) (show cmpI an bd cn cd ≤ 0 by rw [hp]; decide)
          have C4 := fun W => compare_any an ad cn cd W
          rw [cmpS_vld VA.out VC.out] at C4
          rcases cmp_range an ad cn cd with hq2 | hq2 | hq2
          · rw [hq2] at C4
            replace C4 := Lib.hid C4
            clear hp hq hq2
            have e2 : cmpS an bd an ad = 1 := by rw [cmpS_vld VB.out VA.out, cmp_swap an ad an bd, HM.out]; try rfl
            have C2 := Lib.hid (fun W => compare_any an bd an ad W)
            rw [e2] at C2
            clear e2
            have g0 := F4.out.at0 1 rfl
            have g1 := F4.out.at1 1 rfl
            have g2 := F4.out.at0 0 rfl
            have g3 := F4.out.at1 0 rfl
            go_wp2_with fail
            refine (C2.out _).mono ?_
            rintro e w5 ⟨rfl, hk5⟩
            have k5 := Lib.hid (k4.out.trans hk5)
            have F5 := Lib.hid (F4.out.kept hk5)
            clear g0 g1 g2 g3 hk5
            have g0 := F5.out.at0 0 rfl
            have g1 := F5.out.at1 0 rfl
            have g2 := F5.out.at0 1 rfl
            have g3 := F5.out.at1 1 rfl
            have g4 := F5.out.at0 2 rfl
            have g5 := F5.out.at1 2 rfl
            go_wp2_with fail
            refine (C3.out _).mono ?_
            rintro e w6 ⟨rfl, hk6⟩
            have k6 := Lib.hid (k5.out.trans hk6)
            have F6 := Lib.hid (F5.out.kept hk6)
            clear g0 g1 g2 g3 g4 g5 hk6
            have g0 := F6.out.at0 0 rfl
            have g1 := F6.out.at1 0 rfl
            have g2 := F6.out.at0 2 rfl
            have g3 := F6.out.at1 2 rfl
            go_wp2_with fail
            refine (C4.out _).mono ?_
            rintro e w7 ⟨rfl, hk7⟩
            have k7 := Lib.hid (k6.out.trans hk7)
            have F7 := Lib.hid (F6.out.kept hk7)
            clear g0 g1 g2 g3 hk7
            have g0 := F7.out.at0 0 rfl
            have g1 := F7.out.at1 0 rfl
            have g2 := F7.out.at0 2 rfl
            have g3 := F7.out.at1 2 rfl
            go_wp2_with fail
            go_meet
            exact ⟨rfl, k7.out, F7.out⟩
          · rw [hq2] at C4
            replace C4 := Lib.hid C4
            clear hp hq hq2
            have e2 : cmpS an bd an ad = 1 := by rw [cmpS_vld VB.out VA.out, cmp_swap an ad an bd, HM.out]; try rfl
            have C2 := Lib.hid (fun W => compare_any an bd an ad W)
            rw [e2] at C2
            clear e2
            have g0 := F4.out.at0 1 rfl
            have g1 := F4.out.at1 1 rfl
            have g2 := F4.out.at0 0 rfl
            have g3 := F4.out.at1 0 rfl
            go_wp2_with fail
            refine (C2.out _).mono ?_
            rintro e w5 ⟨rfl, hk5⟩
            have k5 := Lib.hid (k4.out.trans hk5)
            have F5 := Lib.hid (F4.out.kept hk5)
            clear g0 g1 g2 g3 hk5
            have g0 := F5.out.at0 0 rfl
            have g1 := F5.out.at1 0 rfl
            have g2 := F5.out.at0 1 rfl
            have g3 := F5.out.at1 1 rfl
            have g4 := F5.out.at0 2 rfl
            have g5 := F5.out.at1 2 rfl
            go_wp2_with fail
            refine (C3.out _).mono ?_
            rintro e w6 ⟨rfl, hk6⟩
            have k6 := Lib.hid (k5.out.trans hk6)
            have F6 := Lib.hid (F5.out.kept hk6)
            clear g0 g1 g2 g3 g4 g5 hk6
            have g0 := F6.out.at0 0 rfl
            have g1 := F6.out.at1 0 rfl
            have g2 := F6.out.at0 2 rfl
            have g3 := F6.out.at1 2 rfl
            go_wp2_with fail
            refine (C4.out _).mono ?_
            rintro e w7 ⟨rfl, hk7⟩
            have k7 := Lib.hid (k6.out.trans hk7)
            have F7 := Lib.hid (F6.out.kept hk7)
            clear g0 g1 g2 g3 hk7
            have g0 := F7.out.at0 0 rfl
            have g1 := F7.out.at1 0 rfl
            have g2 := F7.out.at0 2 rfl
            have g3 := F7.out.at1 2 rfl
            go_wp2_with fail
            go_meet
            exact ⟨rfl, k7.out, F7.out⟩
          · rw [hq2] at hq; exact absurd hq (by decide)
        · have C3 := Lib.hid (fun W => compare_any an bd cn cd W)
          rw [cmpS_vld VB.out VC.out, hp] at C3
          clear hp
          have e2 : cmpS an bd an ad = 1 := by rw [cmpS_vld VB.out VA.out, cmp_swap an ad an bd, HM.out]; try rfl
          have C2 := Lib.hid (fun W => compare_any an bd an ad W)
          rw [e2] at C2
          clear e2
          have g0 := F4.out.at0 1 rfl
          have g1 := F4.out.at1 1 rfl
          have g2 := F4.out.at0 0 rfl
          have g3 := F4.out.at1 0 rfl
          go_wp2_with fail
          refine (C2.out _).mono ?_
          rintro e w5 ⟨rfl, hk5⟩
          have k5 := Lib.hid (k4.out.trans hk5)
          have F5 := Lib.hid (F4.out.kept hk5)
          clear g0 g1 g2 g3 hk5
          have g0 := F5.out.at0 0 rfl
          have g1 := F5.out.at1 0 rfl
          have g2 := F5.out.at0 1 rfl
          have g3 := F5.out.at1 1 rfl
          have g4 := F5.out.at0 2 rfl
          have g5 := F5.out.at1 2 rfl
          go_wp2_with fail
          refine (C3.out _).mono ?_
          rintro e w6 ⟨rfl, hk6⟩
          have k6 := Lib.hid (k5.out.trans hk6)
          have F6 := Lib.hid (F5.out.kept hk6)
          clear g0 g1 g2 g3 g4 g5 hk6
          have g0 := F6.out.at0 0 rfl
          have g1 := F6.out.at1 0 rfl
          have g2 := F6.out.at0 2 rfl
          have g3 := F6.out.at1 2 rfl
          go_wp2_with fail
          go_meet
          exact ⟨rfl, k6.out, F6.out⟩
      · rcases cmp_range bn bd cn cd with hp | hp | hp
        · have C3 := Lib.hid (fun W => compare_any bn bd cn cd W)
          rw [cmpS_vld VB.out VC.out, hp] at C3
          have hq := cmp_trans (vld_pos VA.out) (vld_pos VB.out) (vld_pos VC.out) (show cmpI an ad bn bd ≤ 0 by rw [HM.out]; decide) (show cmpI bn bd cn cd ≤ 0 by rw [hp]; decide)
          have C4 := fun W => compare_any an ad cn cd W
          rw [cmpS_vld VA.out VC.out] at C4
          rcases cmp_range an ad cn cd with hq2 | hq2 | hq2
          · rw [hq2] at C4
            replace C4 := Lib.hid C4
            clear hp hq hq2
            have e2 : cmpS bn bd an ad = 1 := by rw [cmpS_vld VB.out VA.out, cmp_swap an ad bn bd, HM.out]; try rfl
            have C2 := Lib.hid (fun W => compare_any bn bd an ad W)
            rw [e2] at C2
            clear e2
            have g0 := F4.out.at0 1 rfl
            have g1 := F4.out.at1 1 rfl
            have g2 := F4.out.at0 0 rfl
            have g3 := F4.out.at1 0 rfl
            go_wp2_with fail
            refine (C2.out _).mono ?_
            rintro e w5 ⟨rfl, hk5⟩
            have k5 := Lib.hid (k4.out.trans hk5)
            have F5 := Lib.hid (F4.out.kept hk5)
            clear g0 g1 g2 g3 hk5
            have g0 := F5.out.at0 0 rfl
            have g1 := F5.out.at1 0 rfl
            have g2 := F5.out.at0 1 rfl
            have g3 := F5.out.at1 1 rfl
            have g4 := F5.out.at0 2 rfl
            have g5 := F5.out.at1 2 rfl
            go_wp2_with fail
            refine (C3.out _).mono ?_
            rintro e w6 ⟨rfl, hk6⟩
            have k6 := Lib.hid (k5.out.trans hk6)
            have F6 := Lib.hid (F5.out.kept hk6)
            clear g0 g1 g2 g3 g4 g5 hk6
            have g0 := F6.out.at0 0 rfl
            have g1 := F6.out.at1 0 rfl
            have g2 := F6.out.at0 2 rfl
            have g3 := F6.out.at1 2 rfl
            go_wp2_with fail
            refine (C4.out _).mono ?_
            rintro e w7 ⟨rfl, hk7⟩
            have k7 := Lib.hid (k6.out.trans hk7)
            have F7 := Lib.hid (F6.out.kept hk7)
            clear g0 g1 g2 g3 hk7
            have g0 := F7.out.at0 0 rfl
            have g1 := F7.out.at1 0 rfl
            have g2 := F7.out.at0 2 rfl
            have g3 := F7.out.at1 2 rfl
            go_wp2_with fail
            go_meet
            exact ⟨rfl, k7.out, F7.out⟩
          · rw [hq2] at C4
            replace C4 := Lib.hid C4
            clear hp hq hq2
            have e2 : cmpS bn bd an ad = 1 := by rw [cmpS_vld VB.out VA.out, cmp_swap an ad bn bd, HM.out]; try rfl
            have C2 := Lib.hid (fun W => compare_any bn bd an ad W)
            rw [e2] at C2
            clear e2
            have g0 := F4.out.at0 1 rfl
            have g1 := F4.out.at1 1 rfl
            have g2 := F4.out.at0 0 rfl
            have g3 := F4.out.at1 0 rfl
            go_wp2_with fail
            refine (C2.out _).mono ?_
            rintro e w5 ⟨rfl, hk5⟩
            have k5 := Lib.hid (k4.out.trans hk5)
            have F5 := Lib.hid (F4.out.kept hk5)
            clear g0 g1 g2 g3 hk5
            have g0 := F5.out.at0 0 rfl
            have g1 := F5.out.at1 0 rfl
            have g2 := F5.out.at0 1 rfl
            have g3 := F5.out.at1 1 rfl
            have g4 := F5.out.at0 2 rfl
            have g5 := F5.out.at1 2 rfl
            go_wp2_with fail
            refine (C3.out _).mono ?_
            rintro e w6 ⟨rfl, hk6⟩
            have k6 := Lib.hid (k5.out.trans hk6)
            have F6 := Lib.hid (F5.out.kept hk6)
            clear g0 g1 g2 g3 g4 g5 hk6
            have g0 := F6.out.at0 0 rfl
            have g1 := F6.out.at1 0 rfl
            have g2 := F6.out.at0 2 rfl
            have g3 := F6.out.at1 2 rfl
            go_wp2_with fail
            refine (C4.out _).mono ?_
            rintro e w7 ⟨rfl, hk7⟩
            have k7 := Lib.hid (k6.out.trans hk7)
            have F7 := Lib.hid (F6.out.kept hk7)
            clear g0 g1 g2 g3 hk7
            have g0 := F7.out.at0 0 rfl
            have g1 := F7.out.at1 0 rfl
            have g2 := F7.out.at0 2 rfl
            have g3 := F7.out.at1 2 rfl
            go_wp2_with fail
            go_meet
            exact ⟨rfl, k7.out, F7.out⟩
          · rw [hq2] at hq; exact absurd hq (by decide)
        · have C3 := Lib.hid (fun W => compare_any bn bd cn cd W)
          rw [cmpS_vld VB.out VC.out, hp] at C3
          have hq := cmp_trans (vld_pos VA.out) (vld_pos VB.out) (vld_pos VC.out) (show cmpI an ad bn bd ≤ 0 by rw [HM.out]; decide) (show cmpI bn bd cn cd ≤ 0 by rw [hp]; decide)
          have C4 := fun W => compare_any an ad cn cd W
          rw [cmpS_vld VA.out VC.out] at C4
          rcases cmp_range an ad cn cd with hq2 | hq2 | hq2
          · rw [hq2] at C4
            replace C4 := Lib.hid C4
            clear hp hq hq2
            have e2 : cmpS bn bd an ad = 1 := by rw [cmpS_vld VB.out VA.out, cmp_swap an ad bn bd, HM.out]; try rfl
            have C2 := Lib.hid (fun W => compare_any bn bd an ad W)
            rw [e2] at C2
            clear e2
            have g0 := F4.out.at0 1 rfl
            have g1 := F4.out.at1 1 rfl
            have g2 := F4.out.at0 0 rfl
            have g3 := F4.out.at1 0 rfl
            go_wp2_with fail
            refine (C2.out _).mono ?_
            rintro e w5 ⟨rfl, hk5⟩
            have k5 := Lib.hid (k4.out.trans hk5)
            have F5 := Lib.hid (F4.out.kept hk5)
            clear g0 g1 g2 g3 hk5
            have g0 := F5.out.at0 0 rfl
            have g1 := F5.out.at1 0 rfl
            have g2 := F5.out.at0 1 rfl
            have g3 := F5.out.at1 1 rfl
            have g4 := F5.out.at0 2 rfl
            have g5 := F5.out.at1 2 rfl
            go_wp2_with fail
            refine (C3.out _).mono ?_
            rintro e w6 ⟨rfl, hk6⟩
            have k6 := Lib.hid (k5.out.trans hk6)
            have F6 := Lib.hid (F5.out.kept hk6)
            clear g0 g1 g2 g3 g4 g5 hk6
            have g0 := F6.out.at0 0 rfl
            have g1 := F6.out.at1 0 rfl
            have g2 := F6.out.at0 2 rfl
            have g3 := F6.out.at1 2 rfl
            go_wp2_with fail
            refine (C4.out _).mono ?_
            rintro e w7 ⟨rfl, hk7⟩
            have k7 := Lib.hid (k6.out.trans hk7)
            have F7 := Lib.hid (F6.out.kept hk7)
            clear g0 g1 g2 g3 hk7
            have g0 := F7.out.at0 0 rfl
            have g1 := F7.out.at1 0 rfl
            have g2 := F7.out.at0 2 rfl
            have g3 := F7.out.at1 2 rfl
            go_wp2_with fail
            go_meet
            exact ⟨rfl, k7.out, F7.out⟩
          · rw [hq2] at C4
            replace C4 := Lib.hid C4
            clear hp hq hq2
            have e2 : cmpS bn bd an ad = 1 := by rw [cmpS_vld VB.out VA.out, cmp_swap an ad bn bd, HM.out]; try rfl
            have C2 := Lib.hid (fun W => compare_any bn bd an ad W)
            rw [e2] at C2
            clear e2
            have g0 := F4.out.at0 1 rfl
            have g1 := F4.out.at1 1 rfl
            have g2 := F4.out.at0 0 rfl
            have g3 := F4.out.at1 0 rfl
            go_wp2_with fail
            refine (C2.out _).mono ?_
            rintro e w5 ⟨rfl, hk5⟩
            have k5 := Lib.hid (k4.out.trans hk5)
            have F5 := Lib.hid (F4.out.kept hk5)
            clear g0 g1 g2 g3 hk5
            have g0 := F5.out.at0 0 rfl
            have g1 := F5.out.at1 0 rfl
            have g2 := F5.out.at0 1 rfl
            have g3 := F5.out.at1 1 rfl
            have g4 := F5.out.at0 2 rfl
            have g5 := F5.out.at1 2 rfl
            go_wp2_with fail
            refine (C3.out _).mono ?_
            rintro e w6 ⟨rfl, hk6⟩
            have k6 := Lib.hid (k5.out.trans hk6)
            have F6 := Lib.hid (F5.out.kept hk6)
            clear g0 g1 g2 g3 g4 g5 hk6
            have g0 := F6.out.at0 0 rfl
            have g1 := F6.out.at1 0 rfl
            have g2 := F6.out.at0 2 rfl
            have g3 := F6.out.at1 2 rfl
            go_wp2_with fail
            refine (C4.out _).mono ?_
            rintro e w7 ⟨rfl, hk7⟩
            have k7 := Lib.hid (k6.out.trans hk7)
            have F7 := Lib.hid (F6.out.kept hk7)
            clear g0 g1 g2 g3 hk7
            have g0 := F7.out.at0 0 rfl
            have g1 := F7.out.at1 0 rfl
            have g2 := F7.out.at0 2 rfl
            have g3 := F7.out.at1 2 rfl
            go_wp2_with fail
            go_meet
            exact ⟨rfl, k7.out, F7.out⟩
          · rw [hq2] at hq; exact absurd hq (by decide)
        · have C3 := Lib.hid (fun W => compare_any bn bd cn cd W)
          rw [cmpS_vld VB.out VC.out, hp] at C3
          clear hp
          have e2 : cmpS bn bd an ad = 1 := by rw [cmpS_vld VB.out VA.out, cmp_swap an ad bn bd, HM.out]; try rfl
          have C2 := Lib.hid (fun W => compare_any bn bd an ad W)
          rw [e2] at C2
          clear e2
          have g0 := F4.out.at0 1 rfl
          have g1 := F4.out.at1 1 rfl
          have g2 := F4.out.at0 0 rfl
          have g3 := F4.out.at1 0 rfl
          go_wp2_with fail
          refine (C2.out _).mono ?_
          rintro e w5 ⟨rfl, hk5⟩
          have k5 := Lib.hid (k4.out.trans hk5)
          have F5 := Lib.hid (F4.out.kept hk5)
          clear g0 g1 g2 g3 hk5
          have g0 := F5.out.at0 0 rfl
          have g1 := F5.out.at1 0 rfl
          have g2 := F5.out.at0 1 rfl
          have g3 := F5.out.at1 1 rfl
          have g4 := F5.out.at0 2 rfl
          have g5 := F5.out.at1 2 rfl
          go_wp2_with fail
          refine (C3.out _).mono ?_
          rintro e w6 ⟨rfl, hk6⟩
          have k6 := Lib.hid (k5.out.trans hk6)
          have F6 := Lib.hid (F5.out.kept hk6)
          clear g0 g1 g2 g3 g4 g5 hk6
          have g0 := F6.out.at0 0 rfl
          have g1 := F6.out.at1 0 rfl
          have g2 := F6.out.at0 2 rfl
          have g3 := F6.out.at1 2 rfl
          go_wp2_with fail
          go_meet
          exact ⟨rfl, k6.out, F6.out⟩
    · rw [HM.out] at h
      subst h
      obtain ⟨rfl, rfl⟩ := cmp_eq VA.out VB.out HM.out
      rcases cmp_range an ad cn cd with hp | hp | hp
      · have C3 := Lib.hid (fun W => compare_any an ad cn cd W)
        rw [cmpS_vld VA.out VC.out, hp] at C3
        have hq := cmp_trans (vld_pos VA.out) (vld_pos VA.out) (vld_pos VC.out) (show cmpI an ad an ad ≤ 0 by rw [HM.out]; decide) (show cmpI an ad cn cd ≤ 0 by rw [hp]; decide)
        have C4 := fun W => compare_any an ad cn cd W
        rw [cmpS_vld VA.out VC.out] at C4
        rcases cmp_range an ad cn cd with hq2 | hq2 | hq2
        · rw [hq2] at C4
          replace C4 := Lib.hid C4
          clear hp hq hq2
          have e2 : cmpS an ad an ad = 0 := by rw [cmpS_vld VA.out VA.out, HM.out]
          have C2 := Lib.hid (fun W => compare_any an ad an ad W)
          rw [e2] at C2
          clear e2
          have g0 := F4.out.at0 1 rfl
          have g1 := F4.out.at1 1 rfl
          have g2 := F4.out.at0 0 rfl
          have g3 := F4.out.at1 0 rfl
          go_wp2_with fail
          refine (C2.out _).mono ?_
          rintro e w5 ⟨rfl, hk5⟩
          have k5 := Lib.hid (k4.out.trans hk5)
          have F5 := Lib.hid (F4.out.kept hk5)
          clear g0 g1 g2 g3 hk5
          have g0 := F5.out.at0 0 rfl
          have g1 := F5.out.at1 0 rfl
          have g2 := F5.out.at0 1 rfl
          have g3 := F5.out.at1 1 rfl
          have g4 := F5.out.at0 2 rfl
          have g5 := F5.out.at1 2 rfl
          go_wp2_with fail
          refine (C3.out _).mono ?_
          rintro e w6 ⟨rfl, hk6⟩
          have k6 := Lib.hid (k5.out.trans hk6)
          have F6 := Lib.hid (F5.out.kept hk6)
          clear g0 g1 g2 g3 g4 g5 hk6
          have g0 := F6.out.at0 0 rfl
          have g1 := F6.out.at1 0 rfl
          have g2 := F6.out.at0 2 rfl
          have g3 := F6.out.at1 2 rfl
          go_wp2_with fail
          refine (C4.out _).mono ?_
          rintro e w7 ⟨rfl, hk7⟩
          have k7 := Lib.hid (k6.out.trans hk7)
          have F7 := Lib.hid (F6.out.kept hk7)
          clear g0 g1 g2 g3 hk7
          have g0 := F7.out.at0 0 rfl
          have g1 := F7.out.at1 0 rfl
          have g2 := F7.out.at0 2 rfl
          have g3 := F7.out.at1 2 rfl
          go_wp2_with fail
          go_meet
          exact ⟨rfl, k7.out, F7.out⟩
        · rw [hq2] at C4
          replace C4 := Lib.hid C4
          clear hp hq hq2
          have e2 : cmpS an ad an ad = 0 := by rw [cmpS_vld VA.out VA.out, HM.out]
          have C2 := Lib.hid (fun W => compare_any an ad an ad W)
          rw [e2] at C2
          clear e2
          have g0 := F4.out.at0 1 rfl
          have g1 := F4.out.at1 1 rfl
          have g2 := F4.out.at0 0 rfl
          have g3 := F4.out.at1 0 rfl
          go_wp2_with fail
          refine (C2.out _).mono ?_
          rintro e w5 ⟨rfl, hk5⟩
          have k5 := Lib.hid (k4.out.trans hk5)
          have F5 := Lib.hid (F4.out.kept hk5)
          clear g0 g1 g2 g3 hk5
          have g0 := F5.out.at0 0 rfl
          have g1 := F5.out.at1 0 rfl
          have g2 := F5.out.at0 1 rfl
          have g3 := F5.out.at1 1 rfl
          have g4 := F5.out.at0 2 rfl
          have g5 := F5.out.at1 2 rfl
          go_wp2_with fail
          refine (C3.out _).mono ?_
          rintro e w6 ⟨rfl, hk6⟩
          have k6 := Lib.hid (k5.out.trans hk6)
          have F6 := Lib.hid (F5.out.kept hk6)
          clear g0 g1 g2 g3 g4 g5 hk6
          have g0 := F6.out.at0 0 rfl
          have g1 := F6.out.at1 0 rfl
          have g2 := F6.out.at0 2 rfl
          have g3 := F6.out.at1 2 rfl
          go_wp2_with fail
          refine (C4.out _).mono ?_
          rintro e w7 ⟨rfl, hk7⟩
          have k7 := Lib.hid (k6.out.trans hk7)
          have F7 := Lib.hid (F6.out.kept hk7)
          clear g0 g1 g2 g3 hk7
          have g0 := F7.out.at0 0 rfl
          have g1 := F7.out.at1 0 rfl
          have g2 := F7.out.at0 2 rfl
          have g3 := F7.out.at1 2 rfl
          go_wp2_with fail
          go_meet
          exact ⟨rfl, k7.out, F7.out⟩
        · rw [hq2] at hq; exact absurd hq (by decide)
      · have C3 := Lib.hid (fun W => compare_any an ad cn cd W)
        rw [cmpS_vld VA.out VC.out, hp] at C3
        have hq := cmp_trans (vld_pos VA.out) (vld_pos VA.out) (vld_pos VC.out) (show cmpI an ad an ad ≤ 0 by rw [HM.out]; decide) (show cmpI an ad cn cd ≤ 0 by rw [hp]; decide)
        have C4 := fun W => compare_any an ad cn cd W
        rw [cmpS_vld VA.out VC.out] at C4
        rcases cmp_range an ad cn cd with hq2 | hq2 | hq2
        · rw [hq2] at C4
          replace C4 := Lib.hid C4
          clear hp hq hq2
          have e2 : cmpS an ad an ad = 0 := by rw [cmpS_vld VA.out VA.out, HM.out]
          have C2 := Lib.hid (fun W => compare_any an ad an ad W)
          rw [e2] at C2
          clear e2
          have g0 := F4.out.at0 1 rfl
          have g1 := F4.out.at1 1 rfl
          have g2 := F4.out.at0 0 rfl
          have g3 := F4.out.at1 0 rfl
          go_wp2_with fail
          refine (C2.out _).mono ?_
          rintro e w5 ⟨rfl, hk5⟩
          have k5 := Lib.hid (k4.out.trans hk5)
          have F5 := Lib.hid (F4.out.kept hk5)
          clear g0 g1 g2 g3 hk5
          have g0 := F5.out.at0 0 rfl
          have g1 := F5.out.at1 0 rfl
          have g2 := F5.out.at0 1 rfl
          have g3 := F5.out.at1 1 rfl
          have g4 := F5.out.at0 2 rfl
          have g5 := F5.out.at1 2 rfl
          go_wp2_with fail
          refine (C3.out _).mono ?_
          rintro e w6 ⟨rfl, hk6⟩
          have k6 := Lib.hid (k5.out.trans hk6)
          have F6 := Lib.hid (F5.out.kept hk6)
          clear g0 g1 g2 g3 g4 g5 hk6
          have g0 := F6.out.at0 0 rfl
          have g1 := F6.out.at1 0 rfl
          have g2 := F6.out.at0 2 rfl
          have g3 := F6.out.at1 2 rfl
          go_wp2_with fail
          refine (C4.out _).mono ?_
          rintro e w7 ⟨rfl, hk7⟩
          have k7 := Lib.hid (k6.out.trans hk7)
          have F7 := Lib.hid (F6.out.kept hk7)
          clear g0 g1 g2 g3 hk7
          have g0 := F7.out.at0 0 rfl
          have g1 := F7.out.at1 0 rfl
          have g2 := F7.out.at0 2 rfl
          have g3 := F7.out.at1 2 rfl
          go_wp2_with fail
          go_meet
          exact ⟨rfl, k7.out, F7.out⟩
        · rw [hq2] at C4
          replace C4 := Lib.hid C4
          clear hp hq hq2
          have e2 : cmpS an ad an ad = 0 := by rw [cmpS_vld VA.out VA.out, HM.out]
          have C2 := Lib.hid (fun W => compare_any an ad an ad W)
          rw [e2] at C2
          clear e2
          have g0 := F4.out.at0 1 rfl
          have g1 := F4.out.at1 1 rfl
          have g2 := F4.out.at0 0 rfl
          have g3 := F4.out.at1 0 rfl
          go_wp2_with fail
          refine (C2.out _).mono ?_
          rintro e w5 ⟨rfl, hk5⟩
          have k5 := Lib.hid (k4.out.trans hk5)
          have F5 := Lib.hid (F4.out.kept hk5)
          clear g0 g1 g2 g3 hk5
          have g0 := F5.out.at0 0 rfl
          have g1 := F5.out.at1 0 rfl
          have g2 := F5.out.at0 1 rfl
          have g3 := F5.out.at1 1 rfl
          have g4 := F5.out.at0 2 rfl
          have g5 := F5.out.at1 2 rfl
          go_wp2_with fail
          refine (C3.out _).mono ?_
          rintro e w6 ⟨rfl, hk6⟩
          have k6 := Lib.hid (k5.out.trans hk6)
          have F6 := Lib.hid (F5.out.kept hk6)
          clear g0 g1 g2 g3 g4 g5 hk6
          have g0 := F6.out.at0 0 rfl
          have g1 := F6.out.at1 0 rfl
          have g2 := F6.out.at0 2 rfl
          have g3 := F6.out.at1 2 rfl
          go_wp2_with fail
          refine (C4.out _).mono ?_
          rintro e w7 ⟨rfl, hk7⟩
          have k7 := Lib.hid (k6.out.trans hk7)
          have F7 := Lib.hid (F6.out.kept hk7)
          clear g0 g1 g2 g3 hk7
          have g0 := F7.out.at0 0 rfl
          have g1 := F7.out.at1 0 rfl
          have g2 := F7.out.at0 2 rfl
          have g3 := F7.out.at1 2 rfl
          go_wp2_with fail
          go_meet
          exact ⟨rfl, k7.out, F7.out⟩
        · rw [hq2] at hq; exact absurd hq (by decide)
      · have C3 := Lib.hid (fun W => compare_any an ad cn cd W)
        rw [cmpS_vld VA.out VC.out, hp] at C3
        clear hp
        have e2 : cmpS an ad an ad = 0 := by rw [cmpS_vld VA.out VA.out, HM.out]
        have C2 := Lib.hid (fun W => compare_any an ad an ad W)
        rw [e2] at C2
        clear e2
        have g0 := F4.out.at0 1 rfl
        have g1 := F4.out.at1 1 rfl
        have g2 := F4.out.at0 0 rfl
        have g3 := F4.out.at1 0 rfl
        go_wp2_with fail
        refine (C2.out _).mono ?_
        rintro e w5 ⟨rfl, hk5⟩
        have k5 := Lib.hid (k4.out.trans hk5)
        have F5 := Lib.hid (F4.out.kept hk5)
        clear g0 g1 g2 g3 hk5
        have g0 := F5.out.at0 0 rfl
        have g1 := F5.out.at1 0 rfl
        have g2 := F5.out.at0 1 rfl
        have g3 := F5.out.at1 1 rfl
        have g4 := F5.out.at0 2 rfl
        have g5 := F5.out.at1 2 rfl
        go_wp2_with fail
        refine (C3.out _).mono ?_
        rintro e w6 ⟨rfl, hk6⟩
        have k6 := Lib.hid (k5.out.trans hk6)
        have F6 := Lib.hid (F5.out.kept hk6)
        clear g0 g1 g2 g3 g4 g5 hk6
        have g0 := F6.out.at0 0 rfl
        have g1 := F6.out.at1 0 rfl
        have g2 := F6.out.at0 2 rfl
        have g3 := F6.out.at1 2 rfl
        go_wp2_with fail
        go_meet
        exact ⟨rfl, k6.out, F6.out⟩
    · rw [HM.out] at h
      subst h
      by_cases e1 : an = bn
      · have hd : ¬ ad = bd := by
          intro hd
          have := HM.out
          rw [e1, hd, cmp_zero.2 rfl] at this
          exact absurd this (by decide)
        subst e1
        have e2 : cmpS an bd an ad = -1 := by rw [cmpS_vld VB.out VA.out, cmp_swap an ad an bd, HM.out]; try rfl
        have C2 := Lib.hid (fun W => compare_any an bd an ad W)
        rw [e2] at C2
        clear e2
        have g0 := F4.out.at0 1 rfl
        have g1 := F4.out.at1 1 rfl
        have g2 := F4.out.at0 0 rfl
        have g3 := F4.out.at1 0 rfl
        go_wp2_with fail
        refine (C2.out _).mono ?_
        rintro e w5 ⟨rfl, hk5⟩
        have k5 := Lib.hid (k4.out.trans hk5)
        have F5 := Lib.hid (F4.out.kept hk5)
        clear g0 g1 g2 g3 hk5
        have g0 := F5.out.at0 0 rfl
        have g1 := F5.out.at1 0 rfl
        have g2 := F5.out.at0 1 rfl
        have g3 := F5.out.at1 1 rfl
        go_wp2_with fail
        go_meet
        exact ⟨rfl, k5.out, F5.out⟩
      · have e2 : cmpS bn bd an ad = -1 := by rw [cmpS_vld VB.out VA.out, cmp_swap an ad bn bd, HM.out]; try rfl
        have C2 := Lib.hid (fun W => compare_any bn bd an ad W)
        rw [e2] at C2
        clear e2
        have g0 := F4.out.at0 1 rfl
        have g1 := F4.out.at1 1 rfl
        have g2 := F4.out.at0 0 rfl
        have g3 := F4.out.at1 0 rfl
        go_wp2_with fail
        refine (C2.out _).mono ?_
        rintro e w5 ⟨rfl, hk5⟩
        have k5 := Lib.hid (k4.out.trans hk5)
        have F5 := Lib.hid (F4.out.kept hk5)
        clear g0 g1 g2 g3 hk5
        have g0 := F5.out.at0 0 rfl
        have g1 := F5.out.at1 0 rfl
        have g2 := F5.out.at0 1 rfl
        have g3 := F5.out.at1 1 rfl
        go_wp2_with fail
        go_meet
        exact ⟨rfl, k5.out, F5.out⟩
  case rest =>
    obtain ⟨rfl, hkx, hFx⟩ := hcut
    clear k1 k2 k3 k4 F1 F2 F3 F4 C1 V1 V2 V3 F0 K0
    obtain ⟨x0, x1, x2, hx⟩ : ∃ a b c, addS an ad cn cd = (a, b, c) := ⟨_, _, _, rfl⟩
    obtain ⟨y0, y1, y2, hy⟩ : ∃ a b c, addS bn bd cn cd = (a, b, c) := ⟨_, _, _, rfl⟩
    have U1 := fun W => lsum_any an ad cn cd W
    have U2 := fun W => lsum_any bn bd cn cd W
    simp only [hx, hy] at U1 U2
    obtain ⟨o1, ho1⟩ : ∃ o, (x2 == 0) = o := ⟨_, rfl⟩
    obtain ⟨o2, ho2⟩ : ∃ o, (y2 == 0) = o := ⟨_, rfl⟩
    rw [ho1] at U1
    rw [ho2] at U2
    have HO1 := Lib.hid ho1
    have HO2 := Lib.hid ho2
    clear ho1 ho2
    replace U1 := Lib.hid U1
    replace U2 := Lib.hid U2
    have HX := Lib.hid hx
    have HY := Lib.hid hy
    have k0 := Lib.hid hkx
    have F0 := Lib.hid hFx
    clear hx hy hkx hFx
    have g0 := F0.out.at0 0 rfl
    have g1 := F0.out.at1 0 rfl
    have g2 := F0.out.at0 2 rfl
    have g3 := F0.out.at1 2 rfl
    go_wp2_with fail
    refine (U1.out _).mono ?_
    rintro e w5 ⟨rfl, hk5⟩
    have F1 := Lib.hid ((F0.out.kept hk5).new x0 x1)
    have k1 := Lib.hid ((k0.out.trans hk5).alloc (.cells #[.int .i64 x0, .int .i64 x1] 23))
    clear g0 g1 g2 g3 hk5
    have g0 := F1.out.at0 1 rfl
    have g1 := F1.out.at1 1 rfl
    have g2 := F1.out.at0 2 rfl
    have g3 := F1.out.at1 2 rfl
    go_wp2_with fail
    refine (U2.out _).mono ?_
    rintro e w6 ⟨rfl, hk6⟩
    have F2 := Lib.hid ((F1.out.kept hk6).new y0 y1)
    have k2 := Lib.hid ((k1.out.trans hk6).alloc (.cells #[.int .i64 y0, .int .i64 y1] 23))
    clear g0 g1 g2 g3 hk6
    go_upto_region 8 with fail
    go_cut [92] (fun s92 wx => s92 = .bool false ∧ Kept w wx ∧ Fx [(w.heap.size, an, ad), (w.heap.size + 1, bn, bd), (w.heap.size + 1 + 1, cn, cd)] wx)
    case first =>
      have g0 := F2.out.at0 3 rfl
      have g1 := F2.out.at1 3 rfl
      have g2 := F2.out.at0 4 rfl
      have g3 := F2.out.at1 4 rfl
      rcases o1 with _ | _
      · go_wp2_with fail
        go_meet
        exact ⟨rfl, k2.out, F2.out.left.left⟩
      rcases o2 with _ | _
      · go_wp2_with fail
        go_meet
        exact ⟨rfl, k2.out, F2.out.left.left⟩
      have ex : addS an ad cn cd = (x0, x1, 0) := by rw [HX.out, beq_iff_eq.1 HO1.out]
      have ey : addS bn bd cn cd = (y0, y1, 0) := by rw [HY.out, beq_iff_eq.1 HO2.out]
      have C := fun W => compare_any x0 x1 y0 y1 W
      rw [cmpS_vld (addS_ok ex).2.2.1 (addS_ok ey).2.2.1, cmp_add ex ey, HM.out] at C
      replace C := Lib.hid C
      clear ex ey
      go_wp2_with fail
      refine (C.out _).mono ?_
      rintro e w7 ⟨rfl, hk7⟩
      have k3 := Lib.hid (k2.out.trans hk7)
      have F3 := Lib.hid (F2.out.kept hk7)
      clear g0 g1 g2 g3 hk7
      go_wp2_with fail
      go_meet
      exact ⟨rfl, k3.out, F3.out.left.left⟩
    case rest =>
      obtain ⟨rfl, hkx, hFx⟩ := hcut
      rename World => wz
      clear k0 k1 k2 F0 F1 F2 HX HY U1 U2
      have E0 := HE.out.kept hkx
      have g0 := hFx.at0 0 rfl
      have g1 := hFx.at1 0 rfl
      have S0 := Lib.hid (SQ_of (w := w) g0 g1 E0 ((Kept.refl _).drew))
      have HK := Lib.hid hkx
      clear hkx hFx E0
      by_cases hd : ad = 1
      · subst hd
        obtain ⟨e1, e2⟩ := floor_one VA.out
        have P1 := fun W => floor_any an 1 W
        have P2 := fun W => ceil_any an 1 ha1 ha2 W
        rw [e1] at P1
        rw [e2] at P2
        replace P1 := Lib.hid P1
        replace P2 := Lib.hid P2
        clear e1 e2
        have D1 := fun W => compare_any an 1 an 1 W
        rw [cmpS_vld VA.out VA.out, cmp_zero.2 rfl] at D1
        replace D1 := Lib.hid D1
        go_wp2_with fail
        go_region_held3 (fun W => W.cell? ⟨w.heap.size, 0, none⟩ = some (.int .i64 an) ∧ W.cell? ⟨w.heap.size, 1, none⟩ = some (.int .i64 1) ∧ Env W ∧ Kept wz W)
          (first
            | (with_reducible exact S0.out)
            | (with_reducible refine SQ_step ?_ hkk; assumption)
            | fail)
          (first
            | fail
            | (go_at_call 23; refine (P1.out _).mono ?_; rintro e w' ⟨rfl, hkk⟩)
            | (go_at_call 25; refine (P2.out _).mono ?_; rintro e w' ⟨rfl, hkk⟩))
        obtain ⟨f0, f1, fE, fK⟩ := ‹_ ∧ _ ∧ Env _ ∧ Kept wz _›
        have K1 := Lib.hid (HK.out.trans fK)
        have S1 := Lib.hid (SQ_of (w := w) f0 f1 fE ((Kept.refl _).drew))
        rename World => wy
        clear S0 fE fK P1 P2
        go_wp2_with fail
        go_region_held3 (fun W => W.cell? ⟨w.heap.size, 0, none⟩ = some (.int .i64 an) ∧ W.cell? ⟨w.heap.size, 1, none⟩ = some (.int .i64 1) ∧ Env W ∧ Kept wy W)
          (first
            | (with_reducible exact S1.out)
            | (with_reducible refine SQ_step ?_ hkk; assumption)
            | fail)
          (first
            | fail
            | (go_at_call 78; refine (lwhole_any _ _).mono ?_; rintro e w' ⟨rfl, hkk⟩)
            | (go_at_call 21; refine (D1.out _).mono ?_; rintro e w' ⟨rfl, hkk⟩))
        obtain ⟨g0, g1, gE, gK⟩ := ‹_ ∧ _ ∧ Env _ ∧ Kept wy _›
        have K2 := Lib.hid (K1.out.trans gK)
        have S2 := Lib.hid (SQ_of (w := w) g0 g1 gE ((Kept.refl _).drew))
        rename World => wx
        clear S1 gE gK f0 f1
        by_cases hl : an = 1000000000000
        · have hs4 : (an == 1000000000000) = true := by simp; exact hl
          have SO := Lib.hid (SQ_env S2.out)
          clear hl
          go_wp2_with fail
          have hs4b : decide (an = 1000000000000) = true := by simpa using hs4
          refine wp_region_held_drew (S := fun W => Kept wx W) (by kernel_rfl) ((Kept.refl wx).drew) (fun hS0 => ?_)
          refine wpAnyH_ready (rs := [0]) (by kernel_rfl) (by simp) ?_
          refine AllReadyH.cons rfl (fun K hK => ?_) AllReadyH.nil
          rw [if_pos (by rfl)]
          go_simp
          refine (alive_any _ SO.out).mono ?_
          rintro e w' ⟨rfl, hkk⟩
          go_wp2_with fail
          refine hK.out _ _ (((Kept.refl wx).drew).trans hkk) (fun hHeld => ?_)
          clear hK K
          try simp only [Act.put, List.setIfInBounds_toArray, List.set_cons_zero, List.set_cons_succ]
          refine take_at (i := 1) (d := some 127) (v := ?_) rfl rfl (by kernel_rfl) (by kernel_rfl) (by kernel_rfl) (fun _ _ _ h => h) (Or.inl ⟨by rfl, ?_⟩) hHeld ?_
          rotate_left
          · intro w hSw
            go_simp
            try (with_reducible rfl)
          simp only [Act.put, List.setIfInBounds_toArray, List.set_cons_zero, List.set_cons_succ]
          refine take_at (i := 2) (d := some 128) (v := ?_) rfl rfl (by kernel_rfl) (by kernel_rfl) (by kernel_rfl) (fun _ _ _ h => h) (Or.inl ⟨by rfl, ?_⟩) hHeld ?_
          rotate_left
          · intro w hSw
            go_simp
            try (with_reducible rfl)
          simp only [Act.put, List.setIfInBounds_toArray, List.set_cons_zero, List.set_cons_succ]
          refine take_at (i := 3) (d := some 129) (v := ?_) rfl rfl (by kernel_rfl) (by kernel_rfl) (by kernel_rfl) (fun _ _ _ h => h) (Or.inl ⟨by rfl, ?_⟩) hHeld ?_
          rotate_left
          · intro w hSw
            go_simp
            try (with_reducible rfl)
          simp only [Act.put, List.setIfInBounds_toArray, List.set_cons_zero, List.set_cons_succ]
          refine take_at (i := 4) (d := some 130) (v := ?_) rfl rfl (by kernel_rfl) (by kernel_rfl) (by kernel_rfl) (fun _ _ _ h => h) (Or.inl ⟨by rfl, ?_⟩) hHeld ?_
          rotate_left
          · intro w hSw
            go_simp
            try (with_reducible rfl)
          simp only [Act.put, List.setIfInBounds_toArray, List.set_cons_zero, List.set_cons_succ]
          refine take_at (i := 5) (d := some 131) (v := undef) rfl rfl (by kernel_rfl) (by kernel_rfl) (by kernel_rfl) (fun _ _ _ h => h) (Or.inr ⟨by rfl, rfl⟩) hHeld ?_
          simp only [Act.put, List.setIfInBounds_toArray, List.set_cons_zero, List.set_cons_succ]
          refine take_at (i := 6) (d := some 132) (v := undef) rfl rfl (by kernel_rfl) (by kernel_rfl) (by kernel_rfl) (fun _ _ _ h => h) (Or.inr ⟨by rfl, rfl⟩) hHeld ?_
          simp only [Act.put, List.setIfInBounds_toArray, List.set_cons_zero, List.set_cons_succ]
          refine take_at (i := 7) (d := some 133) (v := undef) rfl rfl (by kernel_rfl) (by kernel_rfl) (by kernel_rfl) (fun _ _ _ h => h) (Or.inr ⟨by rfl, rfl⟩) hHeld ?_
          simp only [Act.put, List.setIfInBounds_toArray, List.set_cons_zero, List.set_cons_succ]
          refine take_at (i := 8) (d := some 134) (v := undef) rfl rfl (by kernel_rfl) (by kernel_rfl) (by kernel_rfl) (fun _ _ _ h => h) (Or.inr ⟨by rfl, rfl⟩) hHeld ?_
          simp only [Act.put, List.setIfInBounds_toArray, List.set_cons_zero, List.set_cons_succ]
          refine take_at (i := 9) (d := some 135) (v := undef) rfl rfl (by kernel_rfl) (by kernel_rfl) (by kernel_rfl) (fun _ _ _ h => h) (Or.inr ⟨by rfl, rfl⟩) hHeld ?_
          simp only [Act.put, List.setIfInBounds_toArray, List.set_cons_zero, List.set_cons_succ]
          refine take_at (i := 10) (d := some 136) (v := undef) rfl rfl (by kernel_rfl) (by kernel_rfl) (by kernel_rfl) (fun _ _ _ h => h) (Or.inr ⟨by rfl, rfl⟩) hHeld ?_
          simp only [Act.put, List.setIfInBounds_toArray, List.set_cons_zero, List.set_cons_succ]
          refine take_at (i := 11) (d := some 137) (v := undef) rfl rfl (by kernel_rfl) (by kernel_rfl) (by kernel_rfl) (fun _ _ _ h => h) (Or.inr ⟨by rfl, rfl⟩) hHeld ?_
          simp only [Act.put, List.setIfInBounds_toArray, List.set_cons_zero, List.set_cons_succ]
          refine take_at (i := 12) (d := some 138) (v := ?_) rfl rfl (by kernel_rfl) (by kernel_rfl) (by kernel_rfl) (fun _ _ _ h => h) (Or.inl ⟨by rfl, ?_⟩) hHeld ?_
          rotate_left
          · intro w hSw
            go_simp
            try (with_reducible rfl)
          simp only [Act.put, List.setIfInBounds_toArray, List.set_cons_zero, List.set_cons_succ]
          refine take_at (i := 13) (d := some 139) (v := ?_) rfl rfl (by kernel_rfl) (by kernel_rfl) (by kernel_rfl) (fun _ _ _ h => h) (Or.inl ⟨by rfl, ?_⟩) hHeld ?_
          rotate_left
          · intro w hSw
            go_simp
            try (with_reducible rfl)
          simp only [Act.put, List.setIfInBounds_toArray, List.set_cons_zero, List.set_cons_succ]
          refine take_at (i := 14) (d := some 6) (v := ?_) rfl rfl (by kernel_rfl) (by kernel_rfl) (by kernel_rfl) (fun _ _ _ h => h) (Or.inl ⟨by rfl, ?_⟩) hHeld ?_
          rotate_left
          · intro w hSw
            go_simp
            try (with_reducible rfl)
          simp only [Act.put, List.setIfInBounds_toArray, List.set_cons_zero, List.set_cons_succ]
          refine wpAnyH_done (by kernel_rfl) ?_ _
          go_wp2_with fail
          go_ret
          exact ⟨rfl, K2.out.trans hHeld⟩
        · have hb := (vld_iff.1 VA.out).2.1
          have hs4 : (an == 1000000000000) = false := by simp; omega
          have hs5 := IntWalk.i64_in (an + 1) (by omega)
          have D3 := fun W => compare_any an 1 (an + 1) 1 W
          rw [cmpS_vld VA.out (vld_whole (by omega) (by omega)), cmp_lt.2 (by omega)] at D3
          replace D3 := Lib.hid D3
          clear hb hl
          go_wp2_with fail
          go_region_held3 (fun W => W.cell? ⟨w.heap.size, 0, none⟩ = some (.int .i64 an) ∧ W.cell? ⟨w.heap.size, 1, none⟩ = some (.int .i64 1) ∧ Env W ∧ Kept wx W)
            (first
              | (with_reducible exact S2.out)
              | (with_reducible refine SQ_step ?_ hkk; assumption)
              | fail)
            (first
              | fail
              | (go_at_call 33; refine (alive_any _ (SQ_env (by assumption))).mono ?_; rintro e w' ⟨rfl, hkk⟩)
              | (go_at_call 78; refine (lwhole_any _ _).mono ?_; rintro e w' ⟨rfl, hkk⟩)
              | (go_at_call 21; refine (D3.out _).mono ?_; rintro e w' ⟨rfl, hkk⟩))
          obtain ⟨_, _, _, jK⟩ := ‹_ ∧ _ ∧ Env _ ∧ Kept wx _›
          go_wp2_with fail
          go_ret
          exact ⟨rfl, K2.out.trans jK⟩
      · obtain ⟨k, e1, e2, b1, b2, b3, b4⟩ := floor_two VA.out hd
        have P1 := fun W => floor_any an ad W
        have P2 := fun W => ceil_any an ad ha1 ha2 W
        rw [e1] at P1
        rw [e2] at P2
        replace P1 := Lib.hid P1
        replace P2 := Lib.hid P2
        clear e1 e2
        go_wp2_with fail
        go_region_held3 (fun W => W.cell? ⟨w.heap.size, 0, none⟩ = some (.int .i64 an) ∧ W.cell? ⟨w.heap.size, 1, none⟩ = some (.int .i64 ad) ∧ Env W ∧ Kept wz W)
          (first
            | (with_reducible exact S0.out)
            | (with_reducible refine SQ_step ?_ hkk; assumption)
            | fail)
          (first
            | fail
            | (go_at_call 23; refine (P1.out _).mono ?_; rintro e w' ⟨rfl, hkk⟩)
            | (go_at_call 25; refine (P2.out _).mono ?_; rintro e w' ⟨rfl, hkk⟩))
        obtain ⟨f0, f1, fE, fK⟩ := ‹_ ∧ _ ∧ Env _ ∧ Kept wz _›
        have K1 := Lib.hid (HK.out.trans fK)
        have S1 := Lib.hid (SQ_of (w := w) f0 f1 fE ((Kept.refl _).drew))
        rename World => wy
        clear S0 fE fK P1 P2
        have D1 := fun W => compare_any k 1 an ad W
        rw [cmpS_vld (vld_whole (by omega) (by omega)) VA.out, cmp_lt.2 (by omega)] at D1
        replace D1 := Lib.hid D1
        have D2 := fun W => compare_any (k + 1) 1 an ad W
        rw [cmpS_vld (vld_whole (by omega) (by omega)) VA.out, cmp_gt.2 (by omega)] at D2
        replace D2 := Lib.hid D2
        have D3 := fun W => compare_any an ad (k + 1) 1 W
        rw [cmpS_vld VA.out (vld_whole (by omega) (by omega)), cmp_lt.2 (by omega)] at D3
        replace D3 := Lib.hid D3
        have hs1 : IntKind.i64.wrap (k + 1 - k) = 1 := by rw [show k + 1 - k = 1 by omega]; rfl
        have hs2 : (k + 1 == k) = false := by simp; omega
        have hs3 : (ad == 1) = false := by simp; omega
        have hs4 := Lib.hid (show (k == 1000000000000) = false by simp; omega)
        have hs5 := Lib.hid (IntWalk.i64_in (k + 1) (by omega))
        clear b1 b2 b3 b4
        go_wp2_with fail
        go_region_held3 (fun W => W.cell? ⟨w.heap.size, 0, none⟩ = some (.int .i64 an) ∧ W.cell? ⟨w.heap.size, 1, none⟩ = some (.int .i64 ad) ∧ Env W ∧ Kept wy W)
          (first
            | (with_reducible exact S1.out)
            | (with_reducible refine SQ_step ?_ hkk; assumption)
            | fail)
          (first
            | fail
            | (go_at_call 78; refine (lwhole_any _ _).mono ?_; rintro e w' ⟨rfl, hkk⟩)
            | (go_at_call_of 21 (Value.agg #[.int .i64 k, .int .i64 1]); refine (D1.out _).mono ?_; rintro e w' ⟨rfl, hkk⟩)
            | (go_at_call 21; refine (D2.out _).mono ?_; rintro e w' ⟨rfl, hkk⟩))
        obtain ⟨g0, g1, gE, gK⟩ := ‹_ ∧ _ ∧ Env _ ∧ Kept wy _›
        have K2 := Lib.hid (K1.out.trans gK)
        have S2 := Lib.hid (SQ_of (w := w) g0 g1 gE ((Kept.refl _).drew))
        rename World => wx
        clear S1 gE gK f0 f1
        clear hs1 hs2 hs3
        have hs6 := hs4.out
        have hs7 := hs5.out
        go_wp2_with fail
        go_region_held3 (fun W => W.cell? ⟨w.heap.size, 0, none⟩ = some (.int .i64 an) ∧ W.cell? ⟨w.heap.size, 1, none⟩ = some (.int .i64 ad) ∧ Env W ∧ Kept wx W)
          (first
            | (with_reducible exact S2.out)
            | (with_reducible refine SQ_step ?_ hkk; assumption)
            | fail)
          (first
            | fail
            | (go_at_call 33; refine (alive_any _ (SQ_env (by assumption))).mono ?_; rintro e w' ⟨rfl, hkk⟩)
            | (go_at_call 78; refine (lwhole_any _ _).mono ?_; rintro e w' ⟨rfl, hkk⟩)
            | (go_at_call 21; refine (D3.out _).mono ?_; rintro e w' ⟨rfl, hkk⟩))
        obtain ⟨_, _, _, jK⟩ := ‹_ ∧ _ ∧ Env _ ∧ Kept wx _›
        go_wp2_with fail
        go_ret
        exact ⟨rfl, K2.out.trans jK⟩
end Go.Proofs.YtcjpecdnenemaaaGreatDoor
